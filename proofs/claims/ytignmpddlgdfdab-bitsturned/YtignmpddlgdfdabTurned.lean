/- Walk of BitsTurned. -/
import Derived.Test.YtignmpddlgdfdabAwake
import Derived.Test.YtignmpddlgdfdabCrc
import Derived.Laws.IdiomStrings
namespace Go.Proofs.Ytignmpddlgdfdab
open Go.RowKit

theorem bytes_of (w : World) (s : ByteArray) : ∃ (W1 : World) (cap : Nat), (convert 9 25 (.string s)).run Try.prog w = .ok (.slice (some ⟨w.heap.size, 0, none⟩) s.size cap) W1 ∧
    (∀ j (h : j < s.size), W1.cell? ⟨w.heap.size, j, none⟩ = some (.int .u8 (s[j].toNat : Int))) ∧ (∀ j, j < s.size → W1.frozen? ⟨w.heap.size, j, none⟩ = false) ∧ Only (fun _ => False) w W1 ∧ w.heap.size < W1.heap.size := by
  refine ⟨_, _, run_bytes_of_string (P := Try.prog) w 9 25 5 s Try.underlying9 Try.underlying25 Try.underlying5, ?_, ?_, ?_, ?_⟩
  · intro j hj
    generalize grownCap w s.size 0 5 = cap
    have hb : (w.drew.alloc (.cells (bytesRow s cap) 5 ((bytesRow s cap).size, (bytesRow s cap).size + 1))).heap[w.heap.size]? = some (.cells (bytesRow s cap) 5 ((bytesRow s cap).size, (bytesRow s cap).size + 1)) := heap_alloc_new w.drew _
    rw [cell_of_row _ w.heap.size j (bytesRow s cap) 5 _ hb]
    unfold bytesRow
    rw [Array.getElem?_append_left (by simpa using hj)]
    have hj' : j < s.data.size := hj
    simp [Array.getElem?_map, Array.getElem?_eq_getElem hj']
    rfl
  · intro j hj
    generalize hcap : grownCap w s.size 0 5 = cap
    have hb : (w.drew.alloc (.cells (bytesRow s cap) 5 ((bytesRow s cap).size, (bytesRow s cap).size + 1))).heap[w.heap.size]? = some (.cells (bytesRow s cap) 5 ((bytesRow s cap).size, (bytesRow s cap).size + 1)) := heap_alloc_new w.drew _
    have hl : s.size ≤ (bytesRow s cap).size := by unfold bytesRow; rw [Array.size_append, Array.size_map]; exact Nat.le_add_right _ _
    unfold World.frozen?
    rw [hb]
    simp
    omega
  · exact (Only.drew _ w).trans (Only.alloc _ _ _) (fun _ _ h => h) (T := fun _ => False)
  · simp


theorem str_some (s : ByteArray) (h : 0 < s.size) : s.toList.isEmpty = false := by
  rw [ByteArray.toList_eq]
  cases hl : s.data.toList with
  | nil =>
    have h1 : s.data.toList.length = 0 := by rw [hl]; rfl
    have h2 : s.data.toList.length = s.size := by rw [Array.length_toList]; rfl
    omega
  | cons a t => rfl
theorem xor_byte (c : UInt8) (b : Int) (hb0 : 0 < b) (hb1 : b < 256) : ∃ u : UInt8, (u.toNat : Int) = bits BinOp.xor IntKind.u8 (c.toNat : Int) b ∧ u ≠ c := by
  have hc := c.toNat_lt
  have hlt : c.toNat ^^^ b.toNat < 2 ^ 8 := Nat.xor_lt_two_pow hc (by omega)
  refine ⟨UInt8.ofNat (c.toNat ^^^ b.toNat), ?_, ?_⟩
  · rw [byte_nat (by omega), u8_xor _ _ (by omega) (by omega) (by omega) (by omega), Int.toNat_natCast]
  · intro e
    have e2 : (UInt8.ofNat (c.toNat ^^^ b.toNat)).toNat = c.toNat := by rw [e]
    rw [UInt8.toNat_ofNat_of_lt' (by omega)] at e2
    have e3 : c.toNat ^^^ (c.toNat ^^^ b.toNat) = c.toNat ^^^ c.toNat := by rw [e2]
    rw [← Nat.xor_assoc, Nat.xor_self, Nat.zero_xor] at e3
    omega

theorem turned_cells (W1 W2 : World) (g : Nat) (s : ByteArray) (i : Nat) (u : UInt8) (v : Int) (hv : (u.toNat : Int) = v) (hi : i < s.size) (hg : g < W1.heap.size)
    (hcl : ∀ j (h : j < s.size), W1.cell? ⟨g, j, none⟩ = some (.int .u8 (s[j].toNat : Int))) (ho : Only (fun _ => False) (W1.setCell ⟨g, i, none⟩ (.int .u8 v)).drew W2) :
    ∀ j (hj : j < (s.data.toList.set i u).length), W2.cell? ((⟨g, 0, none⟩ : Addr).add j) = some (.int .u8 ((s.data.toList.set i u)[j].toNat : Int)) := by
  intro j hj
  have hj' : j < s.size := by simpa using hj
  have hadd : (⟨g, 0, none⟩ : Addr).add j = ⟨g, j, none⟩ := by unfold Addr.add; split <;> simp_all
  rw [hadd, ho.cell (p := ⟨g, j, none⟩) (by simpa using hg) (fun h => h)]
  show (W1.setCell ⟨g, i, none⟩ (.int .u8 v)).cell? ⟨g, j, none⟩ = _
  by_cases e : i = j
  · subst e
    rw [World.cell?_setCell_same W1 ⟨g, i, none⟩ (.int .u8 v) (hcl i hi)]
    simp [hv]
  · rw [World.cell?_setCell_other W1 ⟨g, i, none⟩ _ _ (by intro h; injection h with _ h2; exact e h2), hcl j hj']
    rw [List.getElem_set_ne e]
    rfl

set_option maxRecDepth 100000 in
set_option maxHeartbeats 1000000 in
theorem turned_walk (s : ByteArray) (m : Int) (b : Int) (w : World) (hs : s.size ≤ maxLen) (h0 : 0 < s.size) (hm : 0 ≤ m) (hm1 : m < 9223372036854775808) (hb0 : 0 < b) (hb1 : b < 256) :
    Calls Try.prog 3 #[.string s, .int .i64 m, .int .u8 b] w fun e w' => e = .returned (.bool true) ∧ Below w.heap.size w w' := by
  obtain ⟨W1, cap, hcv, hcl, hfl, hon, hz⟩ := bytes_of w s
  have he : (s.toList.isEmpty) = false := str_some s h0
  have hb : (b == 0) = false := by simp; omega
  have hm2 := Int.emod_nonneg m (b := (s.size : Int)) (by omega)
  have hm3 := Int.emod_lt_of_pos m (b := (s.size : Int)) (by omega)
  obtain ⟨i, hi⟩ : ∃ i : Nat, m % (s.size : Int) = (i : Int) := ⟨(m % (s.size : Int)).toNat, by omega⟩
  have hil : i < s.size := by omega
  obtain ⟨u, hu, hun⟩ := xor_byte s[i] b hb0 hb1
  have hci := hcl i hil
  have hfi := hfl i hil
  have hne := sum_ne s.data.toList (s.data.toList.set i u) i u (by simpa using hil) hun rfl
  have HX := hide (And.intro hcl (And.intro hon (And.intro hu hne)))
  clear hcl hfl hon hm2 hm3 hu hne hun
  have hss := hide hs
  unfold maxLen at hs
  go_enter Try.func3, Try.ntmps3
  go_wp2_with fail
  go_region
  go_wp2_with fail
  refine (awake_any _).mono ?_
  rintro e w3 ⟨rfl, ho3⟩
  obtain ⟨hcl, hon, hu, hne⟩ := unhide HX
  have hcb := run_convert_bytes_back (P := Try.prog) w3 25 9 5 ⟨w.heap.size, 0, none⟩ cap (s.data.toList.set i u) Try.underlying25 Try.underlying5 Try.underlying9 (turned_cells W1 w3 w.heap.size s i u _ hu hil hz hcl ho3)
  have hlen : (s.data.toList.set i u).length = s.size := by simp
  rw [hlen] at hcb
  have hfin : Below w.heap.size w w3 := by
    refine Below.trans (hon.below (Nat.le_refl _) (fun _ _ h => h)) (Below.trans (b := (W1.setCell ⟨w.heap.size, i, none⟩ (.int .u8 (bits BinOp.xor IntKind.u8 (s[i].toNat : Int) b))).drew) ?_ (ho3.below (by simp; omega) (fun _ _ h => h)))
    exact ((Below.refl w.heap.size W1).setCell (p := ⟨w.heap.size, i, none⟩) (Nat.le_refl _) _).drew
  have HF := hide (And.intro hfin hne)
  clear hcl hon hu hne hfin HX ho3 hcv hci hfi hlen
  go_wp2_with fail
  refine (sum_any _ _ (by show (s.data.toList.set i u).toArray.size ≤ maxLen; rw [List.size_toArray, List.length_set, Array.length_toList]; exact unhide hss)).mono ?_
  rintro e w4 ⟨rfl, rfl⟩
  go_wp2_with fail
  refine (sum_any _ _ (unhide hss)).mono ?_
  rintro e w4 ⟨rfl, rfl⟩
  have hne := (unhide HF).2
  go_wp2_with fail
  go_ret
  exact ⟨rfl, (unhide HF).1⟩
set_option maxRecDepth 100000 in
set_option maxHeartbeats 1000000 in
theorem turned_neg (s : ByteArray) (m : Int) (b : Int) (w : World) (hs : s.size ≤ maxLen) (h0 : 0 < s.size) (hm : m < 0) (hm1 : -9223372036854775808 ≤ m) (hb0 : 0 < b) (hb1 : b < 256) :
    Calls Try.prog 3 #[.string s, .int .i64 m, .int .u8 b] w fun e w' => e = .returned (.bool true) ∧ Below w.heap.size w w' := by
  obtain ⟨W1, cap, hcv, hcl, hfl, hon, hz⟩ := bytes_of w s
  have he : (s.toList.isEmpty) = false := str_some s h0
  have hb : (b == 0) = false := by simp; omega
  have hm2 := Int.emod_nonneg (-(m + 1)) (b := (s.size : Int)) (by omega)
  have hm3 := Int.emod_lt_of_pos (-(m + 1)) (b := (s.size : Int)) (by omega)
  have htm : -((m + 1).tmod (s.size : Int)) = -(m + 1) % (s.size : Int) := by
    rw [← Int.neg_tmod, Int.tmod_eq_emod_of_nonneg (by omega)]
  obtain ⟨i, hi⟩ : ∃ i : Nat, -((m + 1).tmod (s.size : Int)) = (i : Int) := ⟨(-(m + 1) % (s.size : Int)).toNat, by omega⟩
  have hil : i < s.size := by omega
  obtain ⟨u, hu, hun⟩ := xor_byte s[i] b hb0 hb1
  have hci := hcl i hil
  have hfi := hfl i hil
  have hne := sum_ne s.data.toList (s.data.toList.set i u) i u (by simpa using hil) hun rfl
  have HX := hide (And.intro hcl (And.intro hon (And.intro hu hne)))
  clear hcl hfl hon hm2 hm3 hu hne hun htm
  have hss := hide hs
  unfold maxLen at hs
  go_enter Try.func3, Try.ntmps3
  go_wp2_with fail
  go_region
  go_wp2_with fail
  refine (awake_any _).mono ?_
  rintro e w3 ⟨rfl, ho3⟩
  obtain ⟨hcl, hon, hu, hne⟩ := unhide HX
  have hcb := run_convert_bytes_back (P := Try.prog) w3 25 9 5 ⟨w.heap.size, 0, none⟩ cap (s.data.toList.set i u) Try.underlying25 Try.underlying5 Try.underlying9 (turned_cells W1 w3 w.heap.size s i u _ hu hil hz hcl ho3)
  have hlen : (s.data.toList.set i u).length = s.size := by simp
  rw [hlen] at hcb
  have hfin : Below w.heap.size w w3 := by
    refine Below.trans (hon.below (Nat.le_refl _) (fun _ _ h => h)) (Below.trans (b := (W1.setCell ⟨w.heap.size, i, none⟩ (.int .u8 (bits BinOp.xor IntKind.u8 (s[i].toNat : Int) b))).drew) ?_ (ho3.below (by simp; omega) (fun _ _ h => h)))
    exact ((Below.refl w.heap.size W1).setCell (p := ⟨w.heap.size, i, none⟩) (Nat.le_refl _) _).drew
  have HF := hide (And.intro hfin hne)
  clear hcl hon hu hne hfin HX ho3 hcv hci hfi hlen
  go_wp2_with fail
  refine (sum_any _ _ (by show (s.data.toList.set i u).toArray.size ≤ maxLen; rw [List.size_toArray, List.length_set, Array.length_toList]; exact unhide hss)).mono ?_
  rintro e w4 ⟨rfl, rfl⟩
  go_wp2_with fail
  refine (sum_any _ _ (unhide hss)).mono ?_
  rintro e w4 ⟨rfl, rfl⟩
  have hne := (unhide HF).2
  go_wp2_with fail
  go_ret
  exact ⟨rfl, (unhide HF).1⟩

theorem sum_nil : sum [] = 0 := by decide +kernel
set_option maxRecDepth 100000 in
set_option maxHeartbeats 1000000 in
theorem turned_empty (m : Int) (b : Int) (w : World) :
    Calls Try.prog 3 #[.string ⟨#[]⟩, .int .i64 m, .int .u8 b] w fun e w' => e = .returned (.bool true) ∧ Below w.heap.size w w' := by
  go_enter Try.func3, Try.ntmps3
  go_wp2_with fail
  refine (awake_any _).mono ?_
  rintro e w3 ⟨rfl, ho3⟩
  go_wp2_with fail
  refine (sum_any _ _ (by decide)).mono ?_
  rw [show (⟨#[]⟩ : ByteArray).data.toList = [] from rfl, sum_nil]
  rintro e w4 ⟨rfl, rfl⟩
  go_wp2_with fail
  go_ret
  exact ⟨rfl, ho3.below (Nat.le_refl _) (fun _ _ h => h)⟩
set_option maxRecDepth 100000 in
set_option maxHeartbeats 1000000 in
theorem turned_same (s : ByteArray) (m : Int) (w : World) (h0 : 0 < s.size) :
    Calls Try.prog 3 #[.string s, .int .i64 m, .int .u8 0] w fun e w' => e = .returned (.bool true) ∧ Below w.heap.size w w' := by
  have he : (s.toList.isEmpty) = false := str_some s h0
  go_enter Try.func3, Try.ntmps3
  go_wp2_with fail
  refine (awake_any _).mono ?_
  rintro e w3 ⟨rfl, ho3⟩
  go_wp2_with fail
  refine (sum_any _ _ (by decide)).mono ?_
  rw [show (⟨#[]⟩ : ByteArray).data.toList = [] from rfl, sum_nil]
  rintro e w4 ⟨rfl, rfl⟩
  go_wp2_with fail
  go_ret
  exact ⟨rfl, ho3.below (Nat.le_refl _) (fun _ _ h => h)⟩

theorem turned_any (s : ByteArray) (m b : Int) (w : World) (hs : s.size ≤ maxLen) (hm0 : -9223372036854775808 ≤ m) (hm1 : m < 9223372036854775808) (hb0 : 0 ≤ b) (hb1 : b < 256) :
    Calls Try.prog 3 #[.string s, .int .i64 m, .int .u8 b] w fun e w' => e = .returned (.bool true) ∧ Below w.heap.size w w' := by
  by_cases hz : s.size = 0
  · have e : s = ⟨#[]⟩ := by
      obtain ⟨⟨l⟩⟩ := s
      have : l = [] := List.eq_nil_of_length_eq_zero hz
      rw [this]
    rw [e]
    exact turned_empty m b w
  · by_cases hb : b = 0
    · subst hb
      exact turned_same s m w (by omega)
    · by_cases hn : m < 0
      · exact turned_neg s m b w hs (by omega) hn hm0 (by omega) hb1
      · exact turned_walk s m b w hs (by omega) (by omega) hm1 (by omega) hb1
end Go.Proofs.Ytignmpddlgdfdab
