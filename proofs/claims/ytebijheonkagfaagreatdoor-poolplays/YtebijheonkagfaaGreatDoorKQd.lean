/- What New makes. -/
import Derived.Test.YtebijheonkagfaaGreatDoorKQc
import Derived.Laws.Bits64b
import Derived.Laws.IdiomCopy
import Derived.Laws.OwnMore
import Derived.Lib.SlBuf
namespace Go.Proofs.YtebijheonkagfaaGreatDoor
open Go.RowKit
set_option maxRecDepth 100000 in
set_option maxHeartbeats 800000 in
theorem upTo_any (w : World) (most n : Int) : Calls Tryz.prog 45 #[.int .i64 most, .int .i64 n] w fun e w' => e = .returned (.bool (decide (1 ≤ n ∧ n ≤ most))) ∧ w' = w := by
  by_cases h1 : 1 ≤ n
  · by_cases h2 : n ≤ most
    · rw [show decide (1 ≤ n ∧ n ≤ most) = true from decide_eq_true ⟨h1, h2⟩]
      go_enter Tryz.func45, Tryz.ntmps45
      go_wp2
      go_ret
      exact ⟨rfl, rfl⟩
    · rw [show decide (1 ≤ n ∧ n ≤ most) = false from decide_eq_false (fun e => h2 e.2)]
      go_enter Tryz.func45, Tryz.ntmps45
      go_wp2
      go_ret
      exact ⟨rfl, rfl⟩
  · rw [show decide (1 ≤ n ∧ n ≤ most) = false from decide_eq_false (fun e => h1 e.1)]
    go_enter Tryz.func45, Tryz.ntmps45
    go_wp2
    go_ret
    exact ⟨rfl, rfl⟩
set_option maxRecDepth 100000 in
set_option maxHeartbeats 800000 in
theorem ofits_yes (w : World) (d g m : Nat) (D : Dk) (h : Dsk w d g m D) (frm pages : Nat) (hp : pages ≤ 8192) (hf : frm + 8 * pages ≤ D.old.length) (hD : D.old.length ≤ 65536) :
    Calls Tryz.prog 46 #[.pointer (some ⟨d, 0, none⟩), .int .i64 (frm : Int), .int .i64 (pages : Int)] w fun e w' => e = .returned (.bool true) ∧ Only (fun _ => False) w w' := by
  have HZ := hide (fun W (ho : Only (fun _ => False) w W) => size_any W d g m D (h.same ho))
  have h0 : (0 : Int) ≤ (frm : Int) := by omega
  have h1 : (pages : Int) * 8 ≤ (D.old.length : Int) - (frm : Int) := by omega
  have h2 : (D.old.length : Int) ≤ 65536 := by omega
  have h3 : (pages : Int) ≤ 8192 := by omega
  obtain ⟨N, hN⟩ : ∃ N, D.old.length = N := ⟨_, rfl⟩; rw [hN] at HZ h1 h2; clear h hf hD hN
  go_enter Tryz.func46, Tryz.ntmps46
  go_wp2_with fail
  refine (HZ.out _ (Only.refl _ _)).mono ?_; rintro e w1 ⟨rfl, hw1⟩; obtain rfl := hw1.symm; clear hw1 HZ
  go_wp2_with fail
  go_ret
  exact ⟨rfl, Only.refl _ _⟩
theorem and_low (n : Nat) (hn : n < 4294967296) : bits BinOp.and IntKind.u64 (n : Int) 4294967295 = (n : Int) := by
  have h := bits_and_u64_nat n 4294967295 (by omega) (by omega)
  have e : n &&& 4294967295 = n := by
    have := Nat.and_two_pow_sub_one_eq_mod n 32; rw [show (2 ^ 32 - 1 : Nat) = 4294967295 by decide] at this; rw [this]
    omega
  rw [e] at h
  exact h
set_option maxRecDepth 100000 in
set_option maxHeartbeats 800000 in
theorem mul64_one (w : World) (n : Nat) (hn : n ≤ 1024) : Calls Tryz.prog 102 #[.int .u64 1, .int .u64 (n : Int)] w fun e w' => e = .returned (.tuple #[.int .u64 0, .int .u64 (n : Int)]) ∧ w' = w := by
  have h1 : (n : Int) ≤ 1024 := by omega
  have e1 : bits BinOp.and IntKind.u64 1 4294967295 = 1 := and_low 1 (by omega); have e2 : bits BinOp.and IntKind.u64 (n : Int) 4294967295 = (n : Int) := and_low n (by omega); have e3 : bits BinOp.and IntKind.u64 0 4294967295 = 0 := and_low 0 (by omega)
  have e4 : (n : Int) / 4294967296 = 0 := by omega
  have e5 : IntKind.u64.wrap (n : Int) = (n : Int) := by rw [IntKind.wrap_u64]; omega
  have e6 : IntKind.u64.wrap 0 = 0 := by rw [IntKind.wrap_u64]; omega
  go_enter Tryz.func102, Tryz.ntmps102
  go_wp2_with fail
  go_ret2
  exact ⟨rfl, rfl⟩
set_option maxRecDepth 100000 in
set_option maxHeartbeats 800000 in
theorem mul_one (w : World) (n : Nat) (hn : n ≤ 1024) : Calls Tryz.prog 77 #[.int .u64 1, .int .u64 (n : Int)] w fun e w' => e = .returned (.tuple #[.int .u64 0, .int .u64 (n : Int)]) ∧ w' = w := by
  go_enter Tryz.func77, Tryz.ntmps77
  go_wp2_with fail
  refine (mul64_one _ n hn).mono ?_; rintro e w1 ⟨rfl, hw1⟩; obtain rfl := hw1.symm; clear hw1
  go_wp2_with fail
  go_ret2
  exact ⟨rfl, rfl⟩
theorem Tryz.infoFrame : (Tryz.prog.info? 93).map (fun i => (i.zero, i.size, i.bytes)) = some (some (.agg #[.int .i64 0, .int .i64 0, .int .i64 0, .int .i64 0, .string ⟨#[]⟩, .slice none 0 0, .int .i64 0, .bool false]), 8, 88) := by kernel_rfl
theorem run_copy8 {P : Program} (w : World) (dT sT ty elem : TypeId) (b o dLen dCap : Nat) (a : Addr) (sLen sCap : Nat) (cs : List Value)
    (hu : P.underlying dT = some (.slice elem)) (hs : (P.info? elem).map (·.size) = some 8) (hn : cs.length = Nat.min sLen dLen * 8)
    (hsrc : ∀ j v, cs[j]? = some v → w.cell? (a.add j) = some v) (hc : ∀ j, j < cs.length → (w.cell? ⟨b, o + j, none⟩).isSome = true) (hf : ∀ j, j < cs.length → w.frozen? ⟨b, o + j, none⟩ = false) (h1 : ∀ v ∈ cs, v.oneCell' = true) :
    (Builtin.copy_ #[dT, sT] ty #[.slice (some ⟨b, o, none⟩) dLen dCap, .slice (some a) sLen sCap]).run P w = .ok (goInt (Nat.min sLen dLen)) (w.setCells b o cs) := by
  have hl := run_loadCells_list (P := P) w a cs hsrc; have hst := run_storeCells_cells (P := P) b o cs 0 w (by simpa using hc) (by simpa using hf) h1
  cases hq : P.info? elem with
  | none => simp [hq] at hs
  | some i =>
    have hi : i.size = 8 := by simpa [hq] using hs
    simp [Builtin.copy_, run_underlying hu, Builtin.lenOf, Builtin.firstCells, sizeOf, typeInfo, hq, hi, ← hn, hl, hst]
def zl : List Value := [.int .i64 0, .int .i64 0, .int .i64 0, .int .i64 0, .string ⟨#[]⟩, .slice none 0 0, .int .i64 (-1), .bool false]
structure Rp (W1 wr : World) (g n c : Nat) : Prop where
  le : c ≤ n
  has : ∀ k, k < n * 8 → (wr.cell? ⟨g, k, none⟩).isSome = true
  fz : ∀ k, wr.frozen? ⟨g, k, none⟩ = false
  fr : ∀ j, j < c * 8 → wr.cell? ⟨g, j, none⟩ = zl[j % 8]?
  only : Only (fun k => k = g) W1 wr
  lt : g < wr.heap.size
def zls (m : Nat) : List Value := (List.range (m * 8)).map fun j => zl.getD (j % 8) undef
theorem zls_len (m : Nat) : (zls m).length = m * 8 := by simp [zls]
theorem zl_at (j : Nat) : zl[j % 8]? = some (zl.getD (j % 8) undef) := by
  have h : j % 8 < zl.length := by simp [zl]; omega
  simp [List.getElem?_eq_getElem h]
theorem zls_at (m j : Nat) (h : j < m * 8) : (zls m)[j]? = zl[j % 8]? := by
  rw [zl_at]
  simp [zls, h]
theorem zls_one (m : Nat) : ∀ v ∈ zls m, v.oneCell' = true := by
  intro v hv; simp only [zls, List.mem_map, List.mem_range] at hv; obtain ⟨j, _, rfl⟩ := hv
  have : ∀ q : Fin 8, (zl.getD q.val undef).oneCell' = true := by decide
  exact this ⟨j % 8, by omega⟩
theorem Rp.step {W1 wr : World} {g n c : Nat} (h : Rp W1 wr g n c) (m : Nat) (hm : c + m ≤ n) : Rp W1 (wr.setCells g (c * 8) (zls m)) g n (c + m) := by
  have hl := zls_len m; have ho := only_cells8 g (zls m) (c * 8) wr; refine ⟨hm, fun k hk => ?_, fun k => by rw [World.frozen?_setCells]; exact h.fz k, fun j hj => ?_, h.only.trans ho (fun _ _ e => e), Nat.lt_of_lt_of_le h.lt ho.size⟩
  · by_cases e : c * 8 ≤ k ∧ k < c * 8 + m * 8
    · have hin := World.cell?_setCells_in g (zls m) (c * 8) wr (fun j hj => h.has _ (by omega)) (k - c * 8) (by omega)
      rw [show c * 8 + (k - c * 8) = k by omega] at hin; rw [hin]
      simp
    · rw [World.cell?_setCells_out g (zls m) (c * 8) wr ⟨g, k, none⟩ (fun _ _ => by simp only; omega)]
      exact h.has k hk
  · by_cases e : c * 8 ≤ j
    · have hin := World.cell?_setCells_in g (zls m) (c * 8) wr (fun j hj => h.has _ (by omega)) (j - c * 8) (by omega)
      rw [show c * 8 + (j - c * 8) = j by omega] at hin; rw [hin]; have h2 := zls_at m (j - c * 8) (by omega); rw [show (j - c * 8) % 8 = j % 8 by omega] at h2; rw [← h2]
      simp [show j - c * 8 < (zls m).length by omega]
    · rw [World.cell?_setCells_out g (zls m) (c * 8) wr ⟨g, j, none⟩ (fun _ _ => by simp only; omega)]
      exact h.fr j (by omega)
theorem Tryz.sizeFrame : (Tryz.prog.info? 93).map (·.size) = some 8 := by kernel_rfl
theorem Rp.copy {W1 wr : World} {g n c : Nat} (h : Rp W1 wr g n c) (ty : TypeId) (hu : Tryz.prog.underlying 90 = some (.slice 93)) (cd cs : Nat) : (Builtin.copy_ #[90, 90] ty #[.slice (some ⟨g, c * 8, none⟩) (n - c) cd, .slice (some ⟨g, 0, none⟩) c cs]).run Tryz.prog wr = .ok (goInt (Nat.min c (n - c))) (wr.setCells g (c * 8) (zls (Nat.min c (n - c)))) := by
  have hl := h.le; have hm1 : Nat.min c (n - c) ≤ c := Nat.min_le_left _ _; have hm2 : Nat.min c (n - c) ≤ n - c := Nat.min_le_right _ _; refine run_copy8 wr 90 90 ty 93 g (c * 8) (n - c) cd ⟨g, 0, none⟩ c cs (zls (Nat.min c (n - c))) hu Tryz.sizeFrame (zls_len _) (fun j v hv => ?_) (fun j hj => ?_) (fun j _ => h.fz _) (zls_one _)
  · have hj : j < Nat.min c (n - c) * 8 := by have := (List.getElem?_eq_some_iff.1 hv).1; rwa [zls_len] at this
    rw [zls_at _ j hj] at hv; rw [add_at, Nat.zero_add, h.fr j (by omega)]
    exact hv
  · rw [zls_len] at hj
    exact h.has _ (by omega)
theorem Tryz.undFrames : Tryz.prog.underlying 90 = some (.slice 93) := by kernel_rfl
set_option maxRecDepth 100000 in
set_option maxHeartbeats 1600000 in
theorem rep_any (w : World) (b n : Nat) (hn1 : 1 ≤ n) (hn : n ≤ 1024) (hb : ∀ j, j < 8 → w.cell? ⟨b, j, none⟩ = zl[j]?) (hbl : b < w.heap.size) :
    Calls Tryz.prog 47 #[.slice (some ⟨b, 0, none⟩) 1 1, .int .i64 (n : Int)] w fun e w' => e = .returned (.slice (some ⟨w.heap.size, 0, none⟩) n n) ∧ Only (fun _ => False) w w' ∧ ∃ W1, Rp W1 w' w.heap.size n n := by
  have h1 : (n : Int) ≤ 1024 := by omega
  have h0 : (1 : Int) ≤ (n : Int) := by omega
  have e5 : IntKind.u64.wrap (n : Int) = (n : Int) := by rw [IntKind.wrap_u64]; omega
  obtain ⟨i0, hi, hz0, hz1, hz2⟩ := info_parts Tryz.infoFrame; obtain ⟨W1, hmk, hrow, hgr⟩ := run_makeSlice_full w w.heap.size 90 93 i0 _ 8 Tryz.undFrames hi hz0 hz1 .i64 .i64 n (by omega) (by rw [hz2]; omega) (by unfold maxLen; omega) (Nat.le_refl _); have hO1 : Only (fun _ => False) w W1 := Only.grown hgr (fun k hk => by cases hk); have hgl : w.heap.size < W1.heap.size := (World.ownsRow.lt hrow _ rfl).2; have hR0 : Rp W1 W1 w.heap.size n 0 := ⟨by omega, fun k hk => by rw [World.ownsRow.cellAt hrow k hk]; have := hrow.1; simp [this, hk], fun k => World.ownsRow.frozenAt hrow k, fun j hj => by omega, Only.refl _ _, hgl⟩
  have hcp : (Builtin.copy_ #[90, 90] 3 #[.slice (some ⟨w.heap.size, 0, none⟩) n n, .slice (some ⟨b, 0, none⟩) 1 1]).run Tryz.prog W1 = .ok (.int .i64 1) (W1.setCells w.heap.size 0 (zls 1)) := by
    have hm : Nat.min 1 n = 1 := Nat.min_eq_left hn1
    have := run_copy8 (P := Tryz.prog) W1 90 90 3 93 w.heap.size 0 n n ⟨b, 0, none⟩ 1 1 (zls 1) Tryz.undFrames Tryz.sizeFrame (by rw [zls_len, hm]) (fun j v hv => by
      have hj : j < 1 * 8 := by have := (List.getElem?_eq_some_iff.1 hv).1; rwa [zls_len] at this
      rw [zls_at _ j hj, show j % 8 = j by omega] at hv; rw [add_at, Nat.zero_add, hO1.cell (p := ⟨b, j, none⟩) hbl (fun h => h), hb j (by omega)]
      exact hv) (fun j hj => by rw [zls_len] at hj; exact hR0.has _ (by omega)) (fun j _ => hR0.fz _) (zls_one 1)
    rwa [hm] at this
  have hR1 : Rp W1 (W1.setCells w.heap.size 0 (zls 1)) w.heap.size n 1 := by have := hR0.step 1 (by omega); rwa [Nat.zero_mul] at this
  obtain ⟨g, hg⟩ : ∃ g, w.heap.size = g := ⟨_, rfl⟩; obtain ⟨W2, hW2⟩ : ∃ W2, W1.setCells w.heap.size 0 (zls 1) = W2 := ⟨_, rfl⟩; rw [hW2] at hcp hR1; rw [hg] at hmk hcp hR1 ⊢; have HG := hide hg; have HO1 := hide hO1; have HR1 := hide hR1; clear hR0 hrow hgr hO1 hR1 hg hW2 hgl hb hbl hi hz0 hz1 hz2
  go_enter Tryz.func47, Tryz.ntmps47
  go_wp2_with fail
  refine (mul_one _ n hn).mono ?_; rintro e w1 ⟨rfl, hw1⟩; obtain rfl := hw1.symm; clear hw1
  go_wp2_with fail
  clear hcp hmk e5
  go_loopw [8] (fun y wr => ∃ c : Nat, 1 ≤ c ∧ c ≤ n ∧ y = .int .i64 (c : Int) ∧ Hid (Rp W1 wr g n c)) (fun y _ => n - (intOf y).toNat)
  case atStart => exact ⟨1, by omega, by omega, rfl, HR1⟩
  case round =>
    obtain ⟨c, hc1, hcn, rfl, HR⟩ := hrel; clear HR1
    by_cases hlt : c < n
    · have hci : (c : Int) < (n : Int) := by omega
      have hc0 : (0 : Int) ≤ (c : Int) := by omega
      obtain ⟨q, hq⟩ : ∃ q, Nat.min c (n - c) = q := ⟨_, rfl⟩
      have hq1 : 1 ≤ q := by rw [← hq]; simp only [Nat.min_def]; split <;> omega
      have hq3 : q ≤ n - c := by rw [← hq]; exact Nat.min_le_right _ _
      have hq2 : c + q ≤ n := by omega
      have hRd : Rp W1 wr.drew g n c := ⟨HR.out.le, fun k hk => by simpa using HR.out.has k hk, fun k => by simpa using HR.out.fz k, fun j hj => by simpa using HR.out.fr j hj, HR.out.only.trans (Only.drew (fun _ => False) wr) (fun _ _ e => e.elim), by simpa using HR.out.lt⟩; have hcp := hRd.copy 3 Tryz.undFrames (n - c) n; rw [hq, show goInt q = .int .i64 (q : Int) from rfl] at hcp; have HRN : Hid (Rp W1 (wr.drew.setCells g (c * 8) (zls q)) g n (c + q)) := hRd.step q hq2; obtain ⟨W3, hW3⟩ : ∃ W3, wr.drew.setCells g (c * 8) (zls q) = W3 := ⟨_, rfl⟩; rw [hW3] at hcp HRN
      have hnc : ¬ n = c := by omega
      have hsub : (n : Int) - (c : Int) = ((n - c : Nat) : Int) := by omega
      clear hRd hq hW3
      go_upto_region 9 with fail
      go_region
      go_wp2_with fail
      go_roundw
      case rel => exact ⟨c + q, by omega, by omega, by go_num, HRN⟩
      case measure => simp [intOf]; omega
    · have e : c = n := by omega
      subst e
      go_wp2_with fail
      go_ret
      refine ⟨rfl, ?_, W1, HR.out⟩; have := HG.out
      exact HO1.out.trans HR.out.only (fun k hk e => by omega)
def Pl.new (frm pages n : Nat) : Pl := ⟨frm, pages, List.replicate n Fm.none, fun _ => none⟩
theorem poolAt_new {w4 : World} {d l fb frm pages n : Nat} {W1 : World} (h : Rp W1 w4 fb n n) (hn1 : 1 ≤ n) (hn : n ≤ 1024) (hp1 : 1 ≤ pages) (hp : pages ≤ 8192) (hf : frm ≤ 65536) :
    PoolAt ((w4.alloc (.map #[] 0)).alloc (.cells #[.pointer (some ⟨d, 0, none⟩), .pointer (some ⟨l, 0, none⟩), .int .i64 (frm : Int), .int .i64 (pages : Int), .slice (some ⟨fb, 0, none⟩) n n, .map (some w4.heap.size)] 96)) (w4.heap.size + 1) d l fb w4.heap.size (Pl.new frm pages n) (fun k => w4.heap.size + 2 ≤ k) := by
  have hz : (w4.alloc (.map #[] 0)).heap.size = w4.heap.size + 1 := by simp
  have hlt := h.lt; have hO := o2 (onlyA w4 (.map #[] 0)) (onlyA (w4.alloc (.map #[] 0)) (.cells #[.pointer (some ⟨d, 0, none⟩), .pointer (some ⟨l, 0, none⟩), .int .i64 (frm : Int), .int .i64 (pages : Int), .slice (some ⟨fb, 0, none⟩) n n, .map (some w4.heap.size)] 96)); have hM := (Ows.new w4 pages).kept (onlyA (w4.alloc (.map #[] 0)) (.cells #[.pointer (some ⟨d, 0, none⟩), .pointer (some ⟨l, 0, none⟩), .int .i64 (frm : Int), .int .i64 (pages : Int), .slice (some ⟨fb, 0, none⟩) n n, .map (some w4.heap.size)] 96)) (fun h => h); obtain ⟨W5, hW5⟩ : ∃ W5, w4.alloc (.map #[] 0) = W5 := ⟨_, rfl⟩; rw [hW5] at hz hO hM ⊢
  have hl : (Pl.new frm pages n).fs.length = n := by simp [Pl.new]
  have hb : w4.heap.size + 1 = W5.heap.size := hz.symm
  have hsz : (W5.alloc (.cells #[.pointer (some ⟨d, 0, none⟩), .pointer (some ⟨l, 0, none⟩), .int .i64 (frm : Int), .int .i64 (pages : Int), .slice (some ⟨fb, 0, none⟩) n n, .map (some w4.heap.size)] 96)).heap.size = w4.heap.size + 2 := by simp; omega
  refine ⟨by rw [hb]; simp, by rw [hb]; simp, by rw [hb]; simp [Pl.new], by rw [hb]; simp [Pl.new], by rw [hb, hl]; simp, by rw [hb]; simp, fun k => by rw [hb]; simp, by omega, fun i hi => ?_, fun k => ?_, by omega, hM, by omega, by omega, by omega, by omega, by omega, by omega, by omega, ⟨hp1, hp⟩, hf, fun f hf => ?_, fun k hk => by omega⟩
  · have hi' : i < n := by omega
    have e : (Pl.new frm pages n).fs[i] = Fm.none := by simp [Pl.new]
    rw [e]; refine ⟨⟨0, none, 0, fun j v hv => ?_, Strs.nil _ _ _, ⟨fun _ => rfl, by simp [Fm.none, Pg.none], by simp⟩, fun h0 => absurd h0 (by simp [Fm.none, Pg.none])⟩, by simp [Fm.none, Pg.none, ByteArray.size], by simp [Fm.none, Pg.none]⟩
    have hj : j < 8 := by have := (List.getElem?_eq_some_iff.1 hv).1; simpa [Fm.cl] using this
    have hc := h.fr (i * 8 + j) (by omega); rw [show (i * 8 + j) % 8 = j by omega] at hc; rw [hO.cell (p := ⟨fb, i * 8 + j, none⟩) hlt (fun h => h), hc]
    exact hv
  · rw [hO.frozen (p := ⟨fb, k, none⟩) hlt (fun h => h)]
    exact h.fz k
  · have : f = Fm.none := by simp [Pl.new] at hf; exact hf.2
    subst this
    exact .inl ⟨rfl, rfl⟩
set_option maxRecDepth 100000 in
set_option maxHeartbeats 1600000 in
theorem onew_ok (w : World) (d l g m : Nat) (D : Dk) (hD : Dsk w d g m D) (frm pages n : Nat) (hn1 : 1 ≤ n) (hn : n ≤ 1024) (hp1 : 1 ≤ pages) (hp : pages ≤ 8192) (hf : frm + 8 * pages ≤ D.old.length) (hl : D.old.length ≤ 65536) :
    Calls Tryz.prog 8 #[.pointer (some ⟨d, 0, none⟩), .pointer (some ⟨l, 0, none⟩), .int .i64 (frm : Int), .int .i64 (pages : Int), .int .i64 (n : Int)] w fun e w' => ∃ p fb mb T, e = .returned (.tuple #[.pointer (some ⟨p, 0, none⟩), .int .i64 0]) ∧ PoolAt w' p d l fb mb (Pl.new frm pages n) T ∧ Only (fun _ => False) w w' ∧ w.heap.size ≤ p ∧ w.heap.size ≤ fb ∧ w.heap.size ≤ mb ∧ (∀ k, T k → w'.heap.size ≤ k) := by
  have HF := hide (ofits_yes w d g m D hD frm pages hp hf hl); have HU1 := hide (show Calls Tryz.prog 45 #[.int .i64 1024, .int .i64 (n : Int)] w _ from upTo_any w 1024 (n : Int)); have HU2 := hide (show Calls Tryz.prog 45 #[.int .i64 8192, .int .i64 (pages : Int)] w _ from upTo_any w 8192 (pages : Int)); rw [show decide ((1 : Int) ≤ (n : Int) ∧ (n : Int) ≤ 1024) = true from decide_eq_true ⟨by omega, by omega⟩] at HU1; rw [show decide ((1 : Int) ≤ (pages : Int) ∧ (pages : Int) ≤ 8192) = true from decide_eq_true ⟨by omega, by omega⟩] at HU2; have HNB := hide (And.intro (And.intro hn1 hn) (And.intro (And.intro hp1 hp) (show frm ≤ 65536 by omega))); clear hD hf hl hn1 hn hp1 hp
  go_enter Tryz.func8, Tryz.ntmps8
  go_wp2_with fail
  refine HU1.out.mono ?_; rintro e w1 ⟨rfl, hw1⟩; obtain rfl := hw1.symm; clear hw1 HU1
  go_wp2_with fail
  refine HU2.out.mono ?_; rintro e w1 ⟨rfl, hw1⟩; obtain rfl := hw1.symm; clear hw1 HU2
  go_wp2_with fail
  refine HF.out.mono ?_; rintro e w3 ⟨rfl, ho3⟩; have HO3 := hide ho3; clear ho3 HF
  go_wp2_with fail
  have HO4 := hide (o2 HO3.out (onlyA w3 (.cells #[.int .i64 0, .int .i64 0, .int .i64 0, .int .i64 0, .string ⟨#[]⟩, .slice none 0 0, .int .i64 (-1), .bool false] 93))); refine (rep_any _ w3.heap.size n HNB.out.1.1 HNB.out.1.2 (fun j hj => ?_) (by simp)).mono ?_
  · rcases j with _ | _ | _ | _ | _ | _ | _ | _ | j
    all_goals first | omega | simp [zl]
  rintro e w4 ⟨rfl, ho4, W1, hr⟩; have HO5 := hide (o2 HO4.out ho4); have HFB : Hid (w.heap.size ≤ (w3.alloc (.cells #[.int .i64 0, .int .i64 0, .int .i64 0, .int .i64 0, .string ⟨#[]⟩, .slice none 0 0, .int .i64 (-1), .bool false] 93)).heap.size) := HO4.out.size; obtain ⟨fb, hfb⟩ : ∃ fb, (w3.alloc (.cells #[.int .i64 0, .int .i64 0, .int .i64 0, .int .i64 0, .string ⟨#[]⟩, .slice none 0 0, .int .i64 (-1), .bool false] 93)).heap.size = fb := ⟨_, rfl⟩; rw [hfb] at hr HFB ⊢; have HR := hide hr; clear hr ho4 hfb HO4
  have hmm : (Instr.makeMap 94 none).run Tryz.prog w4 = .ok (.map (some w4.heap.size)) (w4.alloc (.map #[] 0)) := by rw [run_makeMap]
  go_wp2_with fail
  go_ret2
  have hs := HO5.out.size
  exact ⟨w4.heap.size + 1, fb, w4.heap.size, _, rfl, poolAt_new HR.out HNB.out.1.1 HNB.out.1.2 HNB.out.2.1.1 HNB.out.2.1.2 HNB.out.2.2, o2 (o2 HO5.out (onlyA _ _)) (onlyA _ _), by omega, HFB.out, hs, fun k hk => by simp; omega⟩
end Go.Proofs.YtebijheonkagfaaGreatDoor
