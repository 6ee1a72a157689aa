/- Walk of PageTorn. -/
import Derived.Test.YtiefdndhfeleiabDoorPAwake
import Derived.Test.YtiefdndhfeleiabDoorPOpen
import Derived.Test.YtiefdndhfeleiabDoorPTornA
import Derived.Laws.IdiomStrings
namespace Go.Proofs.YtiefdndhfeleiabDoor
open Go.RowKit

theorem bytes_of (w : World) (s : ByteArray) : ∃ (W1 : World) (cap : Nat), (convert 9 32 (.string s)).run Tryd.prog w = .ok (.slice (some ⟨w.heap.size, 0, none⟩) s.size cap) W1 ∧
    (∀ j (h : j < s.size), W1.cell? ⟨w.heap.size, j, none⟩ = some (.int .u8 (s[j].toNat : Int))) ∧ (∀ j, j < s.size → W1.frozen? ⟨w.heap.size, j, none⟩ = false) ∧ Only (fun _ => False) w W1 ∧ w.heap.size < W1.heap.size := by
  refine ⟨_, _, run_bytes_of_string (P := Tryd.prog) w 9 32 5 s Tryd.underlying9 Tryd.underlying32 Tryd.underlying5, ?_, ?_, ?_, ?_⟩
  · intro j hj
    generalize grownCap w s.size 0 5 = cap
    have hb : (w.drew.alloc (.cells (bytesRow s cap) 5 ((bytesRow s cap).size, (bytesRow s cap).size + 1))).heap[w.heap.size]? = some (.cells (bytesRow s cap) 5 ((bytesRow s cap).size, (bytesRow s cap).size + 1)) := heap_alloc_new w.drew _
    rw [cell_of_row _ w.heap.size j (bytesRow s cap) 5 _ hb]
    unfold bytesRow
    rw [Array.getElem?_append_left (by simpa using hj)]
    have hj' : j < s.data.size := hj
    simp [Array.getElem?_map, Array.getElem?_eq_getElem hj']
    rfl
  · intro j hj
    generalize hcap : grownCap w s.size 0 5 = cap
    have hb : (w.drew.alloc (.cells (bytesRow s cap) 5 ((bytesRow s cap).size, (bytesRow s cap).size + 1))).heap[w.heap.size]? = some (.cells (bytesRow s cap) 5 ((bytesRow s cap).size, (bytesRow s cap).size + 1)) := heap_alloc_new w.drew _
    have hl : s.size ≤ (bytesRow s cap).size := by unfold bytesRow; rw [Array.size_append, Array.size_map]; exact Nat.le_add_right _ _
    unfold World.frozen?
    rw [hb]
    simp
    omega
  · exact (Only.drew _ w).trans (Only.alloc _ _ _) (fun _ _ h => h) (T := fun _ => False)
  · simp
theorem xor_byte (c : UInt8) (b : Int) (hb0 : 0 < b) (hb1 : b < 256) : ∃ u : UInt8, (u.toNat : Int) = bits BinOp.xor IntKind.u8 (c.toNat : Int) b ∧ u ≠ c := by
  have hc := c.toNat_lt
  have hlt : c.toNat ^^^ b.toNat < 2 ^ 8 := Nat.xor_lt_two_pow hc (by omega)
  refine ⟨UInt8.ofNat (c.toNat ^^^ b.toNat), ?_, ?_⟩
  · rw [byte_nat (by omega), u8_xor _ _ (by omega) (by omega) (by omega) (by omega), Int.toNat_natCast]
  · intro e
    have e2 : (UInt8.ofNat (c.toNat ^^^ b.toNat)).toNat = c.toNat := by rw [e]
    rw [UInt8.toNat_ofNat_of_lt' (by omega)] at e2
    have e3 : c.toNat ^^^ (c.toNat ^^^ b.toNat) = c.toNat ^^^ c.toNat := by rw [e2]
    rw [← Nat.xor_assoc, Nat.xor_self, Nat.zero_xor] at e3
    omega
theorem turned_cells (W1 W2 : World) (g : Nat) (s : ByteArray) (i : Nat) (u : UInt8) (v : Int) (hv : (u.toNat : Int) = v) (hi : i < s.size) (hg : g < W1.heap.size)
    (hcl : ∀ j (h : j < s.size), W1.cell? ⟨g, j, none⟩ = some (.int .u8 (s[j].toNat : Int))) (ho : Only (fun _ => False) (W1.setCell ⟨g, i, none⟩ (.int .u8 v)).drew W2) :
    ∀ j (hj : j < (s.data.toList.set i u).length), W2.cell? ((⟨g, 0, none⟩ : Addr).add j) = some (.int .u8 ((s.data.toList.set i u)[j].toNat : Int)) := by
  intro j hj
  have hj' : j < s.size := by simpa using hj
  have hadd : (⟨g, 0, none⟩ : Addr).add j = ⟨g, j, none⟩ := by unfold Addr.add; split <;> simp_all
  rw [hadd, ho.cell (p := ⟨g, j, none⟩) (by simpa using hg) (fun h => h)]
  show (W1.setCell ⟨g, i, none⟩ (.int .u8 v)).cell? ⟨g, j, none⟩ = _
  by_cases e : i = j
  · subst e
    rw [World.cell?_setCell_same W1 ⟨g, i, none⟩ (.int .u8 v) (hcl i hi)]
    simp [hv]
  · rw [World.cell?_setCell_other W1 ⟨g, i, none⟩ _ _ (by intro h; injection h with _ h2; exact e h2), hcl j hj']
    rw [List.getElem_set_ne e]
    rfl

set_option maxRecDepth 100000 in
set_option maxHeartbeats 1600000 in
theorem torn_law (w : World) (a k v r : Int) (h : ByteArray) (B cp : Nat) (ao : Option Addr) (l : List ByteArray) (hS : Strs w B ao l) (hh : h.size ≤ 140737488355328) (ha : a < 9223372036854775808) (m b : Int) (hm0 : -9223372036854775808 ≤ m) (hm1 : m < 9223372036854775808) (hb : 0 ≤ b) (hb1 : b < 256) :
    Calls Tryd.prog 4 #[.agg #[.int .i64 a, .int .i64 k, .int .i64 v, .int .i64 r, .string h, .slice ao l.length cp], .int .i64 m, .int .u8 b] w fun e w' => e = .returned (.bool true) ∧ Only (fun _ => False) w w' := by
  have HS := hide hS
  have HO0 := hide (onlyA w (.cells #[.int .i64 a, .int .i64 k, .int .i64 v, .int .i64 r, .string h, .slice ao l.length cp] 24))
  obtain ⟨W0, hW0⟩ : ∃ W0, w.alloc (.cells #[.int .i64 a, .int .i64 k, .int .i64 v, .int .i64 r, .string h, .slice ao l.length cp] 24) = W0 := ⟨_, rfl⟩
  rw [hW0] at HO0
  have HW0 := hide hW0
  clear hW0 hS
  go_enter Tryd.func4, Tryd.ntmps4
  go_wp2_with fail
  rw [HW0.out]
  have he := pencode_any W0 a k v r h B cp ao l (HS.out.more HO0.out) hh ha
  refine Calls.mono he ?_
  clear he
  rintro e w1 ⟨rfl, ho1⟩
  have HO1 := hide (o2 HO0.out ho1)
  clear ho1
  by_cases hv : Pg.inRange ⟨a, k, v, r, h, l⟩ ∧ Pg.fits ⟨a, k, v, r, h, l⟩
  · rw [out_ok hv.1 hv.2]
    have HSM0 := dec_enc ⟨a, k, v, r, h, l⟩ ⟨hv.1, hv.2, ha⟩
    obtain ⟨E, hE⟩ : ∃ E, str (Pg.enc ⟨a, k, v, r, h, l⟩) = E := ⟨_, rfl⟩
    have hEs : E.size = 512 := by rw [← hE, str_size]; exact enc_len _ hv.2.2.2
    have HSM : Hid (ofTo ((bl E).take 4) = sum ((bl E).drop 4)) := by
      have hsb := sum_bd (Pg.body ⟨a, k, v, r, h, l⟩)
      unfold Hid
      rw [← hE, bl_str]
      unfold Pg.enc
      rw [List.take_left' (bigF_len _ _), List.drop_left' (bigF_len _ _), ofTo_big 4 _ (by omega) (by omega)]
      omega
    have HES := hide hEs
    have hEl : E.size ≤ 512 := by omega
    have hE0 : 0 < E.size := by omega
    have hee : E.toList.isEmpty = false := str_some E hE0
    simp only [hE]
    clear hE hEs hv HSM0
    by_cases hb0' : b = 0
    · subst hb0'
      go_wp2_with fail
      refine (awake_any _).mono ?_
      rintro e w2 ⟨rfl, ho2⟩
      have HO2 := hide (o2 HO1.out ho2)
      clear ho2
      go_wp2_with fail
      go_ret
      exact ⟨rfl, HO2.out⟩
    · have hb0 : 0 < b := by omega
      have hbb : (b == 0) = false := by simpa using hb0'
      clear hb0'
      obtain ⟨W1, cap, hcv, hcl, hfl, hon, hz⟩ := bytes_of w1 E
      by_cases hm : 0 ≤ m
      · skip
        have hm2 := Int.emod_nonneg m (b := (E.size : Int)) (by omega)
        have hm3 := Int.emod_lt_of_pos m (b := (E.size : Int)) (by omega)
        obtain ⟨i, hi⟩ : ∃ i : Nat, m % (E.size : Int) = (i : Int) := ⟨(m % (E.size : Int)).toNat, by omega⟩
        have hil : i < E.size := by omega
        obtain ⟨u, hu, hun⟩ := xor_byte E[i] b hb0 hb1
        have hci := hcl i hil
        have hfi := hfl i hil
        have hdt : dec ((bl E).set i u) = (.none, 30) := dec_torn (bl E) i u (by rw [bl_len]; exact HES.out) (by rw [bl_len]; exact hil) hun HSM.out
        have hcells := turned_cells W1 (W1.setCell ⟨w1.heap.size, i, none⟩ (.int .u8 (bits BinOp.xor IntKind.u8 (E[i].toNat : Int) b))).drew w1.heap.size E i u _ hu hil hz hcl (Only.refl _ _)
        have hcb := run_convert_bytes_back (P := Tryd.prog) (W1.setCell ⟨w1.heap.size, i, none⟩ (.int .u8 (bits BinOp.xor IntKind.u8 (E[i].toNat : Int) b))).drew 32 9 5 ⟨w1.heap.size, 0, none⟩ cap (E.data.toList.set i u) Tryd.underlying32 Tryd.underlying5 Tryd.underlying9 hcells
        have hlen : (E.data.toList.set i u).length = E.size := by simp
        rw [hlen] at hcb
        have hon2 : Only (fun _ => False) w1 (W1.setCell ⟨w1.heap.size, i, none⟩ (.int .u8 (bits BinOp.xor IntKind.u8 (E[i].toNat : Int) b))).drew := (hon.trans (Only.setCell (S := fun k => k = w1.heap.size) W1 ⟨w1.heap.size, i, none⟩ _ rfl) (fun j hj e => by omega)).trans (Only.drew (fun _ => False) _) (fun _ _ h => h)
        have HO2 := hide (o2 HO1.out hon2)
        obtain ⟨Z, hZ⟩ : ∃ Z : ByteArray, (⟨(E.data.toList.set i u).toArray⟩ : ByteArray) = Z := ⟨_, rfl⟩
        have HDZ : Hid (dec (bl Z) = (.none, 30)) := by unfold Hid; rw [← hZ]; exact hdt
        rw [hZ] at hcb
        clear hZ hcl hfl hu hun hdt hcells hlen hon hon2
        go_wp2_with fail
        go_region
        go_wp2_with fail
        refine (pdecode_any _ Z).mono ?_
        rw [HDZ.out]
        rintro e w5 ⟨B5, ao5, cp5, rfl, _, _, ho5, _⟩
        simp only [Pg.none, List.length_nil]
        have HO5 := hide (o2 HO2.out ho5)
        clear ho5 hcb hcv hci hfi
        go_wp2_with fail
        refine (awake_any _).mono ?_
        rintro e w6 ⟨rfl, ho6⟩
        have HO6 := hide (o2 HO5.out (o2 (onlyA w5 (.cells #[.int .i64 0, .int .i64 0, .int .i64 0, .int .i64 0, .string ⟨#[]⟩, .slice ao5 0 cp5] 24)) ho6))
        clear ho6
        go_wp2_with fail
        go_ret
        exact ⟨rfl, HO6.out⟩
      · have hmn : m < 0 := by omega
        have hm2 := Int.emod_nonneg (-(m + 1)) (b := (E.size : Int)) (by omega)
        have hm3 := Int.emod_lt_of_pos (-(m + 1)) (b := (E.size : Int)) (by omega)
        have htm : -((m + 1).tmod (E.size : Int)) = -(m + 1) % (E.size : Int) := by
          rw [← Int.neg_tmod, Int.tmod_eq_emod_of_nonneg (by omega)]
        obtain ⟨i, hi⟩ : ∃ i : Nat, -((m + 1).tmod (E.size : Int)) = (i : Int) := ⟨(-(m + 1) % (E.size : Int)).toNat, by omega⟩
        have hil0 : (i : Int) < (E.size : Int) := by omega
        clear htm
        have hil : i < E.size := by omega
        obtain ⟨u, hu, hun⟩ := xor_byte E[i] b hb0 hb1
        have hci := hcl i hil
        have hfi := hfl i hil
        have hdt : dec ((bl E).set i u) = (.none, 30) := dec_torn (bl E) i u (by rw [bl_len]; exact HES.out) (by rw [bl_len]; exact hil) hun HSM.out
        have hcells := turned_cells W1 (W1.setCell ⟨w1.heap.size, i, none⟩ (.int .u8 (bits BinOp.xor IntKind.u8 (E[i].toNat : Int) b))).drew w1.heap.size E i u _ hu hil hz hcl (Only.refl _ _)
        have hcb := run_convert_bytes_back (P := Tryd.prog) (W1.setCell ⟨w1.heap.size, i, none⟩ (.int .u8 (bits BinOp.xor IntKind.u8 (E[i].toNat : Int) b))).drew 32 9 5 ⟨w1.heap.size, 0, none⟩ cap (E.data.toList.set i u) Tryd.underlying32 Tryd.underlying5 Tryd.underlying9 hcells
        have hlen : (E.data.toList.set i u).length = E.size := by simp
        rw [hlen] at hcb
        have hon2 : Only (fun _ => False) w1 (W1.setCell ⟨w1.heap.size, i, none⟩ (.int .u8 (bits BinOp.xor IntKind.u8 (E[i].toNat : Int) b))).drew := (hon.trans (Only.setCell (S := fun k => k = w1.heap.size) W1 ⟨w1.heap.size, i, none⟩ _ rfl) (fun j hj e => by omega)).trans (Only.drew (fun _ => False) _) (fun _ _ h => h)
        have HO2 := hide (o2 HO1.out hon2)
        obtain ⟨Z, hZ⟩ : ∃ Z : ByteArray, (⟨(E.data.toList.set i u).toArray⟩ : ByteArray) = Z := ⟨_, rfl⟩
        have HDZ : Hid (dec (bl Z) = (.none, 30)) := by unfold Hid; rw [← hZ]; exact hdt
        rw [hZ] at hcb
        clear hZ hcl hfl hu hun hdt hcells hlen hon hon2
        go_wp2_with fail
        go_region
        go_wp2_with fail
        refine (pdecode_any _ Z).mono ?_
        rw [HDZ.out]
        rintro e w5 ⟨B5, ao5, cp5, rfl, _, _, ho5, _⟩
        simp only [Pg.none, List.length_nil]
        have HO5 := hide (o2 HO2.out ho5)
        clear ho5 hcb hcv hci hfi
        go_wp2_with fail
        refine (awake_any _).mono ?_
        rintro e w6 ⟨rfl, ho6⟩
        have HO6 := hide (o2 HO5.out (o2 (onlyA w5 (.cells #[.int .i64 0, .int .i64 0, .int .i64 0, .int .i64 0, .string ⟨#[]⟩, .slice ao5 0 cp5] 24)) ho6))
        clear ho6
        go_wp2_with fail
        go_ret
        exact ⟨rfl, HO6.out⟩
  · obtain ⟨c, hc0, hc⟩ : ∃ c, c ≠ 0 ∧ Pg.out ⟨a, k, v, r, h, l⟩ = ([], c) := by
      by_cases h1 : Pg.inRange ⟨a, k, v, r, h, l⟩
      · exact ⟨3, by decide, out_long h1 (fun h2 => hv ⟨h1, h2⟩)⟩
      · exact ⟨4, by decide, out_range h1⟩
    rw [hc]
    have hcb : (c != 0) = true := by simpa using hc0
    clear hc hv
    go_wp2_with fail
    refine (awake_any _).mono ?_
    rintro e w2 ⟨rfl, ho2⟩
    have HO2 := hide (o2 HO1.out ho2)
    clear ho2
    go_wp2_with fail
    go_ret
    exact ⟨rfl, HO2.out⟩
end Go.Proofs.YtiefdndhfeleiabDoor
