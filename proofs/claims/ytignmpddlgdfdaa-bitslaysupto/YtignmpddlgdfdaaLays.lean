/- Walk of BitsLays. -/
import Derived.Test.YtignmpddlgdfdaaRefN
import Derived.Test.YtignmpddlgdfdaaBulk
namespace Go.Proofs.Ytignmpddlgdfdaa
open Go.RowKit

/-- Two Writers, in blocks b and c, made since w. -/
structure Duo (w w' : World) (b : Nat) (r1 : Option Nat) (l1 : List UInt8) (c : Nat) (r2 : Option Nat) (l2 : List UInt8) : Prop where
  w1 : Wr w' b r1 l1
  w2 : Wr w' c r2 l2
  only : Only (fun _ => False) w w'
  bGe : w.heap.size ≤ b
  cGe : w.heap.size ≤ c
  ne : b ≠ c
  n1 : r1 ≠ some c
  n2 : r2 ≠ some b
  n3 : ∀ k, r1 = some k → r2 ≠ some k
  g1 : ∀ k, r1 = some k → w.heap.size ≤ k
  g2 : ∀ k, r2 = some k → w.heap.size ≤ k
theorem Duo.more {w w' w'' : World} {b c : Nat} {r1 r2 : Option Nat} {l1 l2 : List UInt8} (h : Duo w w' b r1 l1 c r2 l2) (ho : Only (fun _ => False) w' w'') : Duo w w'' b r1 l1 c r2 l2 :=
  ⟨h.w1.kept ho (fun h => h) (fun _ _ h => h), h.w2.kept ho (fun h => h) (fun _ _ h => h), h.only.trans ho (fun _ _ h => h), h.bGe, h.cGe, h.ne, h.n1, h.n2, h.n3, h.g1, h.g2⟩
theorem Duo.swap {w w' : World} {b c : Nat} {r1 r2 : Option Nat} {l1 l2 : List UInt8} (h : Duo w w' b r1 l1 c r2 l2) : Duo w w' c r2 l2 b r1 l1 :=
  ⟨h.w2, h.w1, h.only, h.cGe, h.bGe, fun e => h.ne e.symm, h.n2, h.n1, fun k e e2 => h.n3 k e2 e, h.g2, h.g1⟩
theorem Duo.lay {w w1 w2 : World} {b c : Nat} {r1 r2 r' : Option Nat} {l1 l2 l' : List UInt8} (h : Duo w w1 b r1 l1 c r2 l2) (hW : Wr w2 b r' l') (hg : WGro w1 w2 b r1 r') : Duo w w2 b r' l' c r2 l2 := by
  have hs := h.only.size
  have hc := h.w2.lt
  have hr2 := h.w2.rowLt
  refine ⟨hW, h.w2.kept hg.only ?_ ?_, h.only.trans hg.only ?_, h.bGe, h.cGe, h.ne, ?_, h.n2, ?_, ?_, h.g2⟩
  · rintro (e | e)
    · exact h.ne e.symm
    · exact h.n1 e.symm
  · rintro k e (e2 | e2)
    · subst e2; exact h.n2 e
    · exact h.n3 k e2.symm e
  · rintro i hi (e | e)
    · have := h.bGe; omega
    · have := h.g1 i e.symm; omega
  · rcases hg.new with e | ⟨g, e, hg2⟩
    · rw [e]; exact h.n1
    · rw [e]; intro e2; injection e2 with e2; omega
  · rcases hg.new with e | ⟨g, e, hg2⟩
    · rw [e]; exact h.n3
    · rw [e]; intro k e2 e3; injection e2 with e2; have := (hr2 k e3).2; omega
  · rcases hg.new with e | ⟨g, e, hg2⟩
    · rw [e]; exact h.g1
    · rw [e]; intro k e2; injection e2 with e2; omega
/-- Bytes as a string. -/
def bs (l : List UInt8) : ByteArray := ⟨l.toArray⟩
theorem bs_cat (a b : List UInt8) : bs a ++ bs b = bs (a ++ b) := cat_eq a ⟨b.toArray⟩
theorem bs_size (l : List UInt8) : (bs l).size = l.length := by simp [bs, ByteArray.size]
theorem d_num {w W : World} {b c : Nat} {r1 r2 : Option Nat} {l1 l2 : List UInt8} (z : Int) (g m : Nat) (hg : g = W.heap.size) (h : Duo w W b r1 l1 c r2 l2) (hz : z < 9223372036854775808) (hl : l1.length + 20 ≤ 158329674399744) (hb : b < m) (hr : ∀ k, r1 = some k → k < m) :
    Calls Try.prog 17 #[.pointer (some ⟨b, 0, none⟩), .slice (some ⟨g, 0, none⟩) 1 1] (W.alloc (.cells #[.int .i64 z] 3)) fun e w' => e = .returned (.tuple #[]) ∧ ∃ r', Duo w w' b r' (l1 ++ sev z.toNat) c r2 l2 ∧ Only (fun k => k < m) W w' := by
  subst hg
  refine (wnum_one W b r1 l1 z h.w1 hz hl).mono ?_
  rintro e w' ⟨he, r', h1, h2⟩
  exact ⟨he, r', h.lay h1 h2, h2.only.mono (fun i _ hi => by rcases hi with hi | hi; omega; exact hr i hi.symm)⟩
theorem d_text {w W : World} {b c : Nat} {r1 r2 : Option Nat} {l1 l2 : List UInt8} (s : ByteArray) (m : Nat) (h : Duo w W b r1 l1 c r2 l2) (hl : l1.length + s.size + 30 ≤ 158329674399744) (hb : b < m) (hr : ∀ k, r1 = some k → k < m) :
    Calls Try.prog 19 #[.pointer (some ⟨b, 0, none⟩), .string s] W fun e w' => e = .returned (.tuple #[]) ∧ ∃ r', Duo w w' b r' (l1 ++ (sev s.size ++ s.data.toList)) c r2 l2 ∧ Only (fun k => k < m) W w' := by
  refine (wtext_any W b r1 l1 s h.w1 hl).mono ?_
  rintro e w' ⟨he, r', h1, h2⟩
  exact ⟨he, r', h.lay h1 h2, h2.only.mono (fun i _ hi => by rcases hi with hi | hi; omega; exact hr i hi.symm)⟩
theorem f_num (w : World) (z : Int) (g : Nat) (hg : g = w.heap.size) (hz : z < 9223372036854775808) :
    Calls Try.prog 18 #[.slice (some ⟨g, 0, none⟩) 1 1] (w.alloc (.cells #[.int .i64 z] 3)) fun e w' => e = .returned (.string (bs (sev z.toNat))) ∧ Only (fun _ => False) w w' := by
  subst hg
  exact refNum_one w z hz
theorem f_text (w : World) (s : ByteArray) (hs : s.size + 30 ≤ 158329674399744) :
    Calls Try.prog 20 #[.string s] w fun e w' => e = .returned (.string (bs (sev s.size ++ s.data.toList))) ∧ Only (fun _ => False) w w' := refText_any w s hs
theorem f_bytes {w W : World} {b c : Nat} {r1 r2 : Option Nat} {l1 l2 : List UInt8} (h : Duo w W b r1 l1 c r2 l2) :
    Calls Try.prog 21 #[.pointer (some ⟨b, 0, none⟩)] W fun e w' => e = .returned (.string (bs l1)) ∧ w' = W := wbytes_any W b r1 l1 h.w1
theorem box_kept {wr w2 : World} {o : Obj} {X j : Nat} {v : Value} (h : Only (fun k => k < X) (wr.alloc o) w2) (hX : X = wr.heap.size) (hc : (wr.alloc o).cell? ⟨X, j, none⟩ = some v) : w2.cell? ⟨X, j, none⟩ = some v := by
  subst hX
  exact (h.cell (p := ⟨wr.heap.size, j, none⟩) (by simp) (by simp)).trans hc
theorem duo_start (w : World) : Duo w ((w.alloc (.cells #[.slice none 0 0] 58)).alloc (.cells #[.slice none 0 0] 58)) w.heap.size none [] (w.heap.size + 1) none [] := by
  have h := Wr.new (w.alloc (.cells #[.slice none 0 0] 58))
  have e : (w.alloc (.cells #[.slice none 0 0] 58)).heap.size = w.heap.size + 1 := by simp
  rw [e] at h
  exact ⟨(Wr.new w).alloc _, h, (Only.alloc _ _ _).trans (Only.alloc _ _ _) (fun _ _ h => h) (T := fun _ => False), Nat.le_refl _, by omega, by omega, by simp, by simp, by simp, by simp, by simp⟩
set_option maxRecDepth 100000 in
set_option maxHeartbeats 1600000 in
theorem lays_walk (a : Option Addr) (len cap : Nat) (K N : Nat → Int) (S : Nat → ByteArray) (av : Value) (X : List UInt8) (w : World) (hlen : len ≤ maxLen) (hT : ∀ k, k ≤ len → (encTo len K N S k).length + 100 ≤ 100000000000000) (hX : X.length ≤ 50000000000000) (hI : Its w a len K N S)
    (hA1 : ∀ W r1 l1 r2 l2, Duo w W w.heap.size r1 l1 (w.heap.size + 1) r2 l2 → l1.length ≤ 100000000000000 → Calls Try.prog 17 #[.pointer (some ⟨w.heap.size, 0, none⟩), av] W fun e w' => e = .returned (.tuple #[]) ∧ ∃ r', Duo w w' w.heap.size r' (l1 ++ X) (w.heap.size + 1) r2 l2)
    (hA2 : ∀ W, Only (fun _ => False) w W → Calls Try.prog 18 #[av] W fun e w' => e = .returned (.string (bs X)) ∧ Only (fun _ => False) W w') :
    Calls Try.prog 5 #[.slice a len cap, av] w fun e w' => e = .returned (.bool true) ∧ Below w.heap.size w w' := by
  have HI := hide hI
  have HT := hide hT
  have HA1 := hide hA1
  have HA2 := hide hA2
  clear hI hT hA1 hA2
  unfold maxLen at hlen
  go_enter Try.func5, Try.ntmps5
  go_wp2_with fail
  refine (new_any _).mono ?_
  rintro e w1 ⟨rfl, rfl⟩
  go_wp2_with fail
  refine (new_any _).mono ?_
  rintro e w1 ⟨rfl, rfl⟩
  go_wp2_with fail
  go_loopw [7, 8, 9, 10, 11, 12] (fun x y i _ _ _ wr => ∃ (k : Nat) (r1 r2 : Option Nat) (l1 l2 : List UInt8), k ≤ len ∧ i = .int .i64 k ∧ x = .string (bs l1) ∧ y = .string (bs l2) ∧ l1.length + l2.length ≤ (encTo len K N S k).length ∧ Hid (Duo w wr w.heap.size r1 l1 (w.heap.size + 1) r2 l2))
    (fun _ _ i _ _ _ _ => len - (intOf i).toNat)
  case atStart => exact ⟨0, none, none, [], [], Nat.zero_le _, rfl, rfl, rfl, by simp, duo_start w⟩
  case round =>
    obtain ⟨k, r1, r2, l1, l2, hk, rfl, rfl, rfl, hll, HP⟩ := hrel
    by_cases hlt : k < len
    · obtain ⟨b, off, rfl, hbl, hc0, hc1, hc2, hK0, hK1, hN0, hN1, hS⟩ := HI.out k hlt
      have hon := HP.out.only
      have d0 := (hon.cell (p := ⟨b, off + k * 3, none⟩) hbl (fun h => h)).trans hc0
      have d1 := (hon.cell (p := ⟨b, off + k * 3 + 1, none⟩) hbl (fun h => h)).trans hc1
      have d2 := (hon.cell (p := ⟨b, off + k * 3 + 2, none⟩) hbl (fun h => h)).trans hc2
      have hES := encTo_succ len K N S k hlt
      have hb1 := HT.out k hk
      have hb2 := HT.out (k + 1) (by omega)
      rw [hES, List.length_append] at hb2
      have HES := hide hES
      clear hc0 hc1 hc2 hon hES
      generalize encTo len K N S k = l at *
      obtain ⟨kk, hkk⟩ : ∃ kk, K k = kk := ⟨_, rfl⟩
      obtain ⟨nn, hnn⟩ : ∃ nn, N k = nn := ⟨_, rfl⟩
      obtain ⟨ss, hss⟩ : ∃ ss, S k = ss := ⟨_, rfl⟩
      rw [hkk, hnn, hss] at HES
      rw [hkk, hnn, hss] at hb2
      rw [hkk] at d0 hK0 hK1
      rw [hnn] at d1 hN0 hN1
      rw [hss] at d2 hS
      clear hkk hnn hss
      have hw1 := HP.out.w1.lt
      have hw2 := HP.out.w2.lt
      have hq1 : ∀ i, r1 = some i → i < wr.heap.size := fun i e => (HP.out.w1.rowLt i e).2
      have hq2 : ∀ i, r2 = some i → i < wr.heap.size := fun i e => (HP.out.w2.rowLt i e).2
      have HQ := hide (And.intro hq1 hq2)
      clear hq1 hq2
      have hz1 : (bs l1).size ≤ 158329674399744 := by rw [bs_size]; omega
      have hz2 : (bs l2).size ≤ 158329674399744 := by rw [bs_size]; omega
      by_cases h0 : kk % 3 = 0
      · have h0' : (kk % 3 == 0) = true := by simpa using h0
        have hib : itemBytes kk nn ss = sev nn.toNat := by unfold itemBytes; rw [if_pos h0]
        rw [hib] at HES hb2
        clear h0 hib
        by_cases hev : (k : Int) % 2 = 0
        · have hev' : ((k : Int) % 2 == 0) = true := by simpa using hev
          by_cases h4 : (k : Int) % 4 = 0
          · have h4' : ((k : Int) % 4 == 0) = true := by simpa using h4
            clear hev h4
            go_wp2_with fail
            refine (d_num nn _ wr.heap.size (by simp) (HP.out.more (Only.alloc (fun _ => False) _ _)) hN1 (by omega) (by omega) HQ.out.1).mono ?_
            rintro e w2 ⟨rfl, r3, hD2, ho2⟩
            have x1 := box_kept (j := 1) (v := .int .i64 nn) ho2 rfl (by simp)
            have HD2 := hide (hD2)
            clear hD2 ho2
            go_wp2_with fail
            refine (f_num w2 nn _ rfl hN1).mono ?_
            rintro e w3 ⟨rfl, ho3⟩
            have HD3 := hide (HD2.out.more ho3)
            clear ho3 x1
            have hcat := bs_cat l1 (sev nn.toNat)
            have hz3 : (bs (sev nn.toNat)).size ≤ 158329674399744 := by rw [bs_size]; omega
            go_wp2_with fail
            refine (f_bytes HD3.out).mono ?_
            rintro e w4 ⟨rfl, rfl⟩
            go_wp2_with fail
            go_roundw
            case rel => exact ⟨k + 1, r3, r2, l1 ++ sev nn.toNat, l2, by omega, by go_num, by first | rfl | rw [hcat], by first | rfl | rw [hcat], by rw [HES.out]; simp only [List.length_append] at hb2 ⊢; omega, HD3⟩
            case measure => simp [intOf]; omega
          · have h4' : ((k : Int) % 4 == 0) = false := by simpa using h4
            clear hev h4
            go_wp2_with fail
            refine (d_num nn _ wr.heap.size (by simp) (HP.out.more (Only.alloc (fun _ => False) _ _)) hN1 (by omega) (by omega) HQ.out.1).mono ?_
            rintro e w2 ⟨rfl, r3, hD2, ho2⟩
            have x1 := box_kept (j := 1) (v := .int .i64 nn) ho2 rfl (by simp)
            have HD2 := hide (hD2)
            clear hD2 ho2
            go_wp2_with fail
            refine (f_num w2 nn _ rfl hN1).mono ?_
            rintro e w3 ⟨rfl, ho3⟩
            have HD3 := hide (HD2.out.more ho3)
            clear ho3 x1
            have hcat := bs_cat l1 (sev nn.toNat)
            have hz3 : (bs (sev nn.toNat)).size ≤ 158329674399744 := by rw [bs_size]; omega
            go_wp2_with fail
            go_roundw
            case rel => exact ⟨k + 1, r3, r2, l1 ++ sev nn.toNat, l2, by omega, by go_num, by first | rfl | rw [hcat], by first | rfl | rw [hcat], by rw [HES.out]; simp only [List.length_append] at hb2 ⊢; omega, HD3⟩
            case measure => simp [intOf]; omega
        · have hev' : ((k : Int) % 2 == 0) = false := by simpa using hev
          have h4' : ((k : Int) % 4 == 0) = false := by simp; omega
          clear hev
          go_wp2_with fail
          refine (d_num nn _ wr.heap.size (by simp) ((HP.out.more (Only.alloc (fun _ => False) _ _)).swap) hN1 (by omega) (by omega) HQ.out.2).mono ?_
          rintro e w2 ⟨rfl, r3, hD2, ho2⟩
          have x1 := box_kept (j := 1) (v := .int .i64 nn) ho2 rfl (by simp)
          have HD2 := hide (hD2.swap)
          clear hD2 ho2
          go_wp2_with fail
          refine (f_num w2 nn _ rfl hN1).mono ?_
          rintro e w3 ⟨rfl, ho3⟩
          have HD3 := hide (HD2.out.more ho3)
          clear ho3 x1
          have hcat := bs_cat l2 (sev nn.toNat)
          have hz3 : (bs (sev nn.toNat)).size ≤ 158329674399744 := by rw [bs_size]; omega
          go_wp2_with fail
          go_roundw
          case rel => exact ⟨k + 1, r1, r3, l1, l2 ++ sev nn.toNat, by omega, by go_num, by first | rfl | rw [hcat], by first | rfl | rw [hcat], by rw [HES.out]; simp only [List.length_append] at hb2 ⊢; omega, HD3⟩
          case measure => simp [intOf]; omega
      · by_cases h1 : kk % 3 = 1
        · have h0' : (kk % 3 == 0) = false := by simpa using h0
          have h1' : (kk % 3 == 1) = true := by simpa using h1
          have hib : itemBytes kk nn ss = sev ss.size ++ ss.data.toList := by unfold itemBytes; rw [if_neg h0, if_pos h1]
          have hsl : ss.data.toList.length = ss.size := by rw [Array.length_toList]; rfl
          rw [hib] at HES hb2
          rw [List.length_append, hsl] at hb2
          clear h0 h1 hib
          by_cases hev : (k : Int) % 2 = 0
          · have hev' : ((k : Int) % 2 == 0) = true := by simpa using hev
            by_cases h4 : (k : Int) % 4 = 0
            · have h4' : ((k : Int) % 4 == 0) = true := by simpa using h4
              clear hev h4
              go_wp2_with fail
              refine (d_text ss wr.heap.size (HP.out.more (Only.alloc (fun _ => False) _ _)) (by omega) (by omega) HQ.out.1).mono ?_
              rintro e w2 ⟨rfl, r3, hD2, ho2⟩
              have x1 := box_kept (j := 2) (v := .string ss) ho2 rfl (by simp)
              have HD2 := hide (hD2)
              clear hD2 ho2
              go_wp2_with fail
              refine (f_text w2 ss (by omega)).mono ?_
              rintro e w3 ⟨rfl, ho3⟩
              have HD3 := hide (HD2.out.more ho3)
              clear ho3 x1
              have hcat := bs_cat l1 ((sev ss.size ++ ss.data.toList))
              have hz3 : (bs (sev ss.size ++ ss.data.toList)).size ≤ 158329674399744 := by rw [bs_size, List.length_append]; omega
              go_wp2_with fail
              refine (f_bytes HD3.out).mono ?_
              rintro e w4 ⟨rfl, rfl⟩
              go_wp2_with fail
              go_roundw
              case rel => exact ⟨k + 1, r3, r2, l1 ++ (sev ss.size ++ ss.data.toList), l2, by omega, by go_num, by first | rfl | rw [hcat], by first | rfl | rw [hcat], by rw [HES.out]; simp only [List.length_append] at hb2 ⊢; omega, HD3⟩
              case measure => simp [intOf]; omega
            · have h4' : ((k : Int) % 4 == 0) = false := by simpa using h4
              clear hev h4
              go_wp2_with fail
              refine (d_text ss wr.heap.size (HP.out.more (Only.alloc (fun _ => False) _ _)) (by omega) (by omega) HQ.out.1).mono ?_
              rintro e w2 ⟨rfl, r3, hD2, ho2⟩
              have x1 := box_kept (j := 2) (v := .string ss) ho2 rfl (by simp)
              have HD2 := hide (hD2)
              clear hD2 ho2
              go_wp2_with fail
              refine (f_text w2 ss (by omega)).mono ?_
              rintro e w3 ⟨rfl, ho3⟩
              have HD3 := hide (HD2.out.more ho3)
              clear ho3 x1
              have hcat := bs_cat l1 ((sev ss.size ++ ss.data.toList))
              have hz3 : (bs (sev ss.size ++ ss.data.toList)).size ≤ 158329674399744 := by rw [bs_size, List.length_append]; omega
              go_wp2_with fail
              go_roundw
              case rel => exact ⟨k + 1, r3, r2, l1 ++ (sev ss.size ++ ss.data.toList), l2, by omega, by go_num, by first | rfl | rw [hcat], by first | rfl | rw [hcat], by rw [HES.out]; simp only [List.length_append] at hb2 ⊢; omega, HD3⟩
              case measure => simp [intOf]; omega
          · have hev' : ((k : Int) % 2 == 0) = false := by simpa using hev
            have h4' : ((k : Int) % 4 == 0) = false := by simp; omega
            clear hev
            go_wp2_with fail
            refine (d_text ss wr.heap.size ((HP.out.more (Only.alloc (fun _ => False) _ _)).swap) (by omega) (by omega) HQ.out.2).mono ?_
            rintro e w2 ⟨rfl, r3, hD2, ho2⟩
            have x1 := box_kept (j := 2) (v := .string ss) ho2 rfl (by simp)
            have HD2 := hide (hD2.swap)
            clear hD2 ho2
            go_wp2_with fail
            refine (f_text w2 ss (by omega)).mono ?_
            rintro e w3 ⟨rfl, ho3⟩
            have HD3 := hide (HD2.out.more ho3)
            clear ho3 x1
            have hcat := bs_cat l2 ((sev ss.size ++ ss.data.toList))
            have hz3 : (bs (sev ss.size ++ ss.data.toList)).size ≤ 158329674399744 := by rw [bs_size, List.length_append]; omega
            go_wp2_with fail
            go_roundw
            case rel => exact ⟨k + 1, r1, r3, l1, l2 ++ (sev ss.size ++ ss.data.toList), by omega, by go_num, by first | rfl | rw [hcat], by first | rfl | rw [hcat], by rw [HES.out]; simp only [List.length_append] at hb2 ⊢; omega, HD3⟩
            case measure => simp [intOf]; omega
        · have h0' : (kk % 3 == 0) = false := by simpa using h0
          have h1' : (kk % 3 == 1) = false := by simpa using h1
          have hib : itemBytes kk nn ss = [] := by unfold itemBytes; rw [if_neg h0, if_neg h1]
          rw [hib, List.append_nil] at HES
          clear h0 h1 hib
          by_cases hev : (k : Int) % 2 = 0
          · have hev' : ((k : Int) % 2 == 0) = true := by simpa using hev
            by_cases h4 : (k : Int) % 4 = 0
            · have h4' : ((k : Int) % 4 == 0) = true := by simpa using h4
              clear hev h4
              have HD3 := hide (HP.out.more (Only.alloc (fun _ => False) _ (.cells #[.int .u8 kk, .int .i64 nn, .string ss] 34)))
              have hcat := bs_cat l1 []
              have hcat2 : bs l1 ++ (⟨#[]⟩ : ByteArray) = bs l1 := by have e := hcat; rw [List.append_nil] at e; exact e
              clear hcat
              go_wp2_with fail
              refine (f_bytes HD3.out).mono ?_
              rintro e w4 ⟨rfl, rfl⟩
              go_wp2_with fail
              go_roundw
              case rel => exact ⟨k + 1, r1, r2, l1, l2, by omega, by go_num, by first | rfl | rw [hcat2], by first | rfl | rw [hcat2], by rw [HES.out]; omega, HD3⟩
              case measure => simp [intOf]; omega
            · have h4' : ((k : Int) % 4 == 0) = false := by simpa using h4
              clear hev h4
              have HD3 := hide (HP.out.more (Only.alloc (fun _ => False) _ (.cells #[.int .u8 kk, .int .i64 nn, .string ss] 34)))
              have hcat := bs_cat l1 []
              have hcat2 : bs l1 ++ (⟨#[]⟩ : ByteArray) = bs l1 := by have e := hcat; rw [List.append_nil] at e; exact e
              clear hcat
              go_wp2_with fail
              go_roundw
              case rel => exact ⟨k + 1, r1, r2, l1, l2, by omega, by go_num, by first | rfl | rw [hcat2], by first | rfl | rw [hcat2], by rw [HES.out]; omega, HD3⟩
              case measure => simp [intOf]; omega
          · have hev' : ((k : Int) % 2 == 0) = false := by simpa using hev
            have h4' : ((k : Int) % 4 == 0) = false := by simp; omega
            clear hev
            have HD3 := hide (HP.out.more (Only.alloc (fun _ => False) _ (.cells #[.int .u8 kk, .int .i64 nn, .string ss] 34)))
            have hcat := bs_cat l2 []
            have hcat2 : bs l2 ++ (⟨#[]⟩ : ByteArray) = bs l2 := by have e := hcat; rw [List.append_nil] at e; exact e
            clear hcat
            go_wp2_with fail
            go_roundw
            case rel => exact ⟨k + 1, r1, r2, l1, l2, by omega, by go_num, by first | rfl | rw [hcat2], by first | rfl | rw [hcat2], by rw [HES.out]; omega, HD3⟩
            case measure => simp [intOf]; omega
    · have hb1 := HT.out k hk
      generalize encTo len K N S k = l at *
      have hz1 : (bs l1).size ≤ 158329674399744 := by rw [bs_size]; omega
      have hz3 : (bs X).size ≤ 158329674399744 := by rw [bs_size]; omega
      have hcat := bs_cat l1 X
      go_wp2_with fail
      refine (HA1.out _ r1 l1 r2 l2 HP.out (by omega)).mono ?_
      rintro e w2 ⟨rfl, r3, hD2⟩
      have HD2 := hide hD2
      clear hD2
      go_wp2_with fail
      refine (HA2.out _ HD2.out.only).mono ?_
      rintro e w3 ⟨rfl, ho3⟩
      have HD3 := hide (HD2.out.more ho3)
      clear ho3
      go_wp2_with fail
      refine (awake_any _).mono ?_
      rintro e w4 ⟨rfl, ho4⟩
      have HD4 := hide (HD3.out.more ho4)
      clear ho4
      go_wp2_with fail
      refine (f_bytes HD4.out).mono ?_
      rintro e w5 ⟨rfl, rfl⟩
      go_wp2_with fail
      refine (f_bytes HD4.out.swap).mono ?_
      rintro e w6 ⟨rfl, rfl⟩
      go_wp2_with fail
      go_ret
      exact ⟨rfl, HD4.out.only.below (Nat.le_refl _) (fun _ _ h => h)⟩
end Go.Proofs.Ytignmpddlgdfdaa
