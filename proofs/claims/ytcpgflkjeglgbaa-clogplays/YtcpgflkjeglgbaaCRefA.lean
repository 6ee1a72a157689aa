/- The document's laid. -/
import Derived.Test.YtcpgflkjeglgbaaCWalkG
import Derived.Test.YtcpgflkjeglgbaaCNum
namespace Go.Proofs.Ytcpgflkjeglgbaa
open Go.RowKit

/-- Statuses that a slice leads to, in block B. -/
structure Sts (w : World) (B : Nat) (ao : Option Addr) (l : List Nat) : Prop where
  at_ : 0 < l.length → ∃ o, ao = some ⟨B, o, none⟩ ∧ ∀ j (h : j < l.length), w.cell? ⟨B, o + j, none⟩ = some (.int .u8 (l[j] : Int))
  lt : 0 < l.length → B < w.heap.size
  four : ∀ x ∈ l, x < 4
theorem Sts.kept {S : Nat → Prop} {w w' : World} {B : Nat} {ao : Option Addr} {l : List Nat} (h : Sts w B ao l) (ho : Only S w w') (hS : 0 < l.length → ¬ S B) : Sts w' B ao l :=
  ⟨fun h0 => by
    obtain ⟨o, e, hc⟩ := h.at_ h0
    exact ⟨o, e, fun j hj => (ho.cell (p := ⟨B, o + j, none⟩) (h.lt h0) (hS h0)).trans (hc j hj)⟩, fun h0 => Nat.lt_of_lt_of_le (h.lt h0) ho.size, h.four⟩
theorem Sts.more {w w' : World} {B : Nat} {ao : Option Addr} {l : List Nat} (h : Sts w B ao l) (ho : Only (fun _ => False) w w') : Sts w' B ao l := h.kept ho (fun _ h => h)
theorem Sts.nil (w : World) (B : Nat) (ao : Option Addr) : Sts w B ao [] := ⟨fun h => absurd h (by simp), fun h => absurd h (by simp), fun _ h => by cases h⟩
/-- Bytes with the first i of these statuses. -/
def lsTo (n : Nat) (l : List Nat) : Nat → List UInt8
  | 0 => List.replicate n 0
  | i + 1 => stSet (lsTo n l i) i (l.getD i 0)
theorem lsTo_len (n : Nat) (l : List Nat) (i : Nat) : (lsTo n l i).length = n := by
  induction i with
  | zero => simp [lsTo]
  | succ i ih => rw [lsTo, stSet_len]; exact ih
theorem getD_four {l : List Nat} (h : ∀ x ∈ l, x < 4) (i : Nat) : l.getD i 0 < 4 := by
  by_cases hi : i < l.length
  · rw [List.getD_eq_getElem?_getD, List.getElem?_eq_getElem hi]
    exact h _ (List.getElem_mem hi)
  · rw [List.getD_eq_getElem?_getD, List.getElem?_eq_none (by omega)]
    show 0 < 4
    omega
theorem stAt_ls {n : Nat} {l : List Nat} (h4 : ∀ x ∈ l, x < 4) (i : Nat) (hi : i ≤ 4 * n) (j : Nat) : stAt (lsTo n l i) j = if j < i then l.getD j 0 else 0 := by
  induction i with
  | zero => rw [if_neg (by omega)]; exact stAt_zero n j
  | succ i ih =>
    rw [lsTo, stAt_set (by rw [lsTo_len]; omega) (getD_four h4 i), ih (by omega)]
    by_cases e : j = i
    · subst e
      rw [if_pos rfl, if_pos (by omega)]
    · rw [if_neg e]
      by_cases h2 : j < i
      · rw [if_pos h2, if_pos (by omega)]
      · rw [if_neg h2, if_neg (by omega)]
theorem made_bytes (w : World) (n : Nat) (hn : n ≤ 256) : ∃ w1, (Instr.makeSlice 58 (.int .i64 (n : Int)) (.int .i64 (n : Int))).run Try.prog w = .ok (.slice (some ⟨w.heap.size, 0, none⟩) n n) w1 ∧ Byt w1 w.heap.size (List.replicate n 0) ∧ Only (fun _ => False) w w1 := by
  obtain ⟨i0, hi, hz0, hz1, hz2⟩ := info_parts Try.infoByte
  obtain ⟨w1, hmk, hown, hgr⟩ := run_make_full (P := Try.prog) w w.heap.size 58 5 i0 (.int .u8 0) 1 Try.underlying58 hi hz0 hz1 .i64 .i64 n (by rw [hz2]; omega) (by unfold maxLen; omega) (Nat.le_refl _)
  have e2 : (madeCells (Value.int .u8 0).cells (n * 1)).toList = cells (List.replicate n 0) := by
    have : (Value.int IntKind.u8 0).cells = #[.int .u8 0] := rfl
    rw [this, toList_madeCells_one]; simp [cells]
  rw [e2] at hown
  refine ⟨w1, hmk, ⟨fun j hj => ?_, fun j hj => hown.frozenAt j, (hown.lt w.heap.size rfl).2⟩, Only.grown hgr (fun k hk => by cases hk)⟩
  rw [hown.cellAt j (by rw [List.length_replicate] at hj; omega)]
  have : (cells (List.replicate n (0 : UInt8)))[j]? = some (.int .u8 ((List.replicate n (0 : UInt8))[j].toNat : Int)) := by
    unfold cells
    rw [List.getElem?_map, List.getElem?_eq_getElem hj]
    rfl
  exact this
theorem Byt.setp {w : World} {g : Nat} {l : List UInt8} (h : Byt w g l) {j n : Nat} (hj : j < l.length) (hn : n < 256) {V : Int} (hV : V = (n : Int)) :
    Byt (w.setCell ⟨g, j, none⟩ (.int .u8 V)) g (l.set j (UInt8.ofNat n)) ∧ Only (fun k => k = g) w (w.setCell ⟨g, j, none⟩ (.int .u8 V)) := by
  obtain ⟨⟨c, f, lt⟩, ho⟩ := h.set hj hn hV
  exact ⟨⟨c, f, lt⟩, ⟨ho.os, ho.tape, ho.output, ho.size, ho.block⟩⟩
/-- What laid leaves. -/
structure LaidQ (w w' : World) (e : Ending) (p : Pg) : Prop where
  ex : ∃ B ao cp, e = .returned (.agg #[.int .i64 p.lsn, .int .i64 p.kind, .int .i64 p.level, .int .i64 p.right, .string p.high, .slice ao p.items.length cp]) ∧ Strs w' B ao p.items ∧ Fit ao p.items.length cp ∧ w.heap.size ≤ B
  only : Only (fun _ => False) w w'
theorem results_cell1 {fn : Func} {p : Tmp} {ty : TypeId} (h : fn.results = #[.cell p ty]) (tmps : Array Value) (P : Program) (w : World) :
    (results fn tmps).run P w = ((asAddr (tmps.getD p undef)).run P w).andThen fun a w₁ => (loadVar ty a).run P w₁ := by
  simp only [results, h]
  simp [Sem.run_bind, Result.andThen]
theorem results_page1 {fn : Func} {p : Tmp} (h : fn.results = #[.cell p 24]) {tmps : Array Value} {w : World} {b : Nat} {v0 v1 v2 v3 v4 v5 : Value} (hp : tmps.getD p undef = .pointer (some ⟨b, 0, none⟩)) (hP : Pag w b v0 v1 v2 v3 v4 v5) :
    (results fn tmps).run Try.prog w = .ok (.agg #[v0, v1, v2, v3, v4, v5]) w := by
  have e : (asAddr (.pointer (some ⟨b, 0, none⟩))).run Try.prog w = .ok ⟨b, 0, none⟩ w := rfl
  rw [results_cell1 h, hp, e]
  simp only [Result.andThen, load_page hP]
/-- Behind laid's last statement. -/
structure LaidA (w wc : World) (lsn : Int) (g2 : Nat) (S T : ByteArray) : Prop where
  pag : Pag wc w.heap.size (.int .i64 lsn) (.int .i64 1) (.int .i64 0) (.int .i64 0) (.string ⟨#[]⟩) (.slice (some ⟨g2, 0, none⟩) 2 2)
  strs : Strs wc g2 (some ⟨g2, 0, none⟩) [S, T]
  only : Only (fun _ => False) w wc
  new : w.heap.size < g2
theorem LaidA.of {w w9 : World} {lsn : Int} {v0 v1 v2 v3 v4 v5 : Value} {S T : ByteArray} (h : Pag w9 w.heap.size v0 v1 v2 v3 v4 v5) (ho : Only (fun _ => False) w w9) (hs : S.size ≤ 140737488355328) (ht : T.size ≤ 140737488355328) :
    LaidA w (((((((w9.setCell ⟨w.heap.size, 0, none⟩ (.int .i64 lsn)).setCell ⟨w.heap.size, 1, none⟩ (.int .i64 1)).setCell ⟨w.heap.size, 2, none⟩ (.int .i64 0)).setCell ⟨w.heap.size, 3, none⟩ (.int .i64 0)).setCell ⟨w.heap.size, 4, none⟩ (.string ⟨#[]⟩)).setCell ⟨w.heap.size, 5, none⟩ (.slice (some ⟨w9.heap.size, 0, none⟩) 2 2)).alloc (.cells #[.string S, .string T] 9)) lsn w9.heap.size S T := by
  have h6 := Only.six w9 w.heap.size (.int .i64 lsn) (.int .i64 1) (.int .i64 0) (.int .i64 0) (.string ⟨#[]⟩) (.slice (some ⟨w9.heap.size, 0, none⟩) 2 2)
  have hsz : ((((((w9.setCell ⟨w.heap.size, 0, none⟩ (.int .i64 lsn)).setCell ⟨w.heap.size, 1, none⟩ (.int .i64 1)).setCell ⟨w.heap.size, 2, none⟩ (.int .i64 0)).setCell ⟨w.heap.size, 3, none⟩ (.int .i64 0)).setCell ⟨w.heap.size, 4, none⟩ (.string ⟨#[]⟩)).setCell ⟨w.heap.size, 5, none⟩ (.slice (some ⟨w9.heap.size, 0, none⟩) 2 2)).heap.size = w9.heap.size := by simp
  have hS := Strs.two ((((((w9.setCell ⟨w.heap.size, 0, none⟩ (.int .i64 lsn)).setCell ⟨w.heap.size, 1, none⟩ (.int .i64 1)).setCell ⟨w.heap.size, 2, none⟩ (.int .i64 0)).setCell ⟨w.heap.size, 3, none⟩ (.int .i64 0)).setCell ⟨w.heap.size, 4, none⟩ (.string ⟨#[]⟩)).setCell ⟨w.heap.size, 5, none⟩ (.slice (some ⟨w9.heap.size, 0, none⟩) 2 2)) S T hs ht
  rw [hsz] at hS
  exact ⟨(h.six _ _ _ _ _ _).more (onlyA _ _), hS, o2 (ho.trans h6 (fun i hi e => by omega)) (onlyA _ _), h.lt⟩
set_option maxRecDepth 100000 in
set_option maxHeartbeats 1600000 in
theorem laid_any (w : World) (m f lsn : Int) (B cap : Nat) (ao : Option Addr) (l : List Nat) (hS : Sts w B ao l) (hM : Md m) (hl : l.length ≤ 4 * nb m) (hf0 : 0 ≤ f) (hf1 : f ≤ 1024) :
    Calls Try.prog 29 #[.int .i64 m, .int .i64 f, .slice ao l.length cap, .int .i64 lsn] w fun e w' => LaidQ w w' e ⟨lsn, 1, 0, 0, ⟨#[]⟩, [str (sev f.toNat), str (lsTo (nb m) l l.length)]⟩ := by
  have hn : (m + 3) / 4 = (nb m : Int) := by have := hM.1; unfold nb; omega
  have h1 := hM.1
  have h2 := hM.2.1
  have hb := (nb_bd hM).2.1
  have ht : (m + 3).tdiv 4 = (nb m : Int) := by rw [← hn]; exact Int.tdiv_eq_ediv_of_nonneg (by omega)
  obtain ⟨N, hN⟩ : ∃ N, nb m = N := ⟨_, rfl⟩
  rw [hN] at ht hb hl
  rw [hN]
  clear hn hN hM
  have HS := hide hS
  have hll : l.length ≤ 1024 := by omega
  have HL := hide hl
  have HP := hide (Pag.zero w)
  have HO := hide (onlyA w (.cells #[.int .i64 0, .int .i64 0, .int .i64 0, .int .i64 0, .string ⟨#[]⟩, .slice none 0 0] 24))
  obtain ⟨w1, hmk, hB1, ho1⟩ := made_bytes (w.alloc (.cells #[.int .i64 0, .int .i64 0, .int .i64 0, .int .i64 0, .string ⟨#[]⟩, .slice none 0 0] 24)) N hb
  have hg : (w.alloc (.cells #[.int .i64 0, .int .i64 0, .int .i64 0, .int .i64 0, .string ⟨#[]⟩, .slice none 0 0] 24)).heap.size = w.heap.size + 1 := by simp
  rw [hg] at hmk hB1
  have HB1 := hide hB1
  have HO1 := hide (o2 HO.out ho1)
  have HP1 := hide (HP.out.more ho1)
  obtain ⟨g, hgg⟩ : ∃ g, w.heap.size + 1 = g := ⟨_, rfl⟩
  rw [hgg] at hmk HB1
  have HG := hide hgg
  obtain ⟨S, hSS⟩ : ∃ S, str (sev f.toNat) = S := ⟨_, rfl⟩
  obtain ⟨T, hT⟩ : ∃ T, str (lsTo N l l.length) = T := ⟨_, rfl⟩
  rw [hSS, hT]
  have HSS := hide hSS
  have HTT := hide hT
  clear hS hB1 ho1 hg hgg hl hSS hT
  go_enter Try.func29, Try.ntmps29
  go_wp2_with fail
  clear hmk
  go_loopw [10] (fun t wr => ∃ i : Nat, i ≤ l.length ∧ t = .int .i64 (i : Int) ∧ Hid (Byt wr g (lsTo N l i)) ∧ Hid (Only (fun k => k = g) w1 wr)) (fun t _ => l.length - (intOf t).toNat)
  case atStart => exact ⟨0, by omega, rfl, HB1.out, Only.refl _ _⟩
  case round =>
    obtain ⟨i, hi, rfl, HBY, HON⟩ := hrel
    have HOW : Hid (Only (fun _ => False) w wr) := HO1.out.trans HON.out (fun i hi e => by have := HG.out; omega)
    have HPW : Hid (Pag wr w.heap.size (.int .i64 0) (.int .i64 0) (.int .i64 0) (.int .i64 0) (.string ⟨#[]⟩) (.slice none 0 0)) := HP1.out.kept HON.out (by have := HG.out; omega)
    by_cases hlt : i < l.length
    · obtain ⟨o, eo, hc⟩ := (HS.out.more HOW.out).at_ (by omega)
      subst eo
      have c0 := hc i hlt
      have hv4 := HS.out.four l[i] (List.getElem_mem hlt)
      have HV : Hid (l.getD i 0 = l[i]) := by unfold Hid; rw [List.getD_eq_getElem?_getD, List.getElem?_eq_getElem hlt]; rfl
      obtain ⟨v, hv⟩ : ∃ v, l[i] = v := ⟨_, rfl⟩
      rw [hv] at c0 hv4 HV
      have hil : (i : Int) < (l.length : Int) := by omega
      have e1 : (i : Int).tmod 4 = ((i % 4 : Nat) : Int) := by rw [Int.tmod_eq_emod_of_nonneg (by omega)]; omega
      have e2 : (i : Int).tdiv 4 = ((i / 4 : Nat) : Int) := by rw [Int.tdiv_eq_ediv_of_nonneg (by omega)]; omega
      have hk4 : i % 4 < 4 := by omega
      have hq : i / 4 < N := by have := HL.out; omega
      obtain ⟨k, hk⟩ : ∃ k, i % 4 = k := ⟨_, rfl⟩
      obtain ⟨q, hqq⟩ : ∃ q, i / 4 = q := ⟨_, rfl⟩
      have HK := hide hk
      have HQ := hide hqq
      rw [hk] at e1 hk4
      rw [hqq] at e2 hq
      clear hc hv hk hqq
      have hBl := HBY.out.c q (by rw [lsTo_len]; exact hq)
      have hfr := HBY.out.f q (by rw [lsTo_len]; exact hq)
      have HZ : Hid (stAt (lsTo N l i) i = 0) := by
        unfold Hid
        rw [stAt_ls HS.out.four i (by have := HL.out; omega), if_neg (by omega)]
      have hbt := UInt8.toNat_lt ((lsTo N l i)[q]'(by rw [lsTo_len]; exact hq))
      have HD : Hid (dig ((lsTo N l i)[q]'(by rw [lsTo_len]; exact hq)).toNat k = 0) := by
        have h := HZ.out
        unfold Hid
        unfold stAt at h
        rw [HQ.out, HK.out] at h
        unfold byt at h
        rw [List.getD_eq_getElem?_getD, List.getElem?_eq_getElem (by rw [lsTo_len]; exact hq)] at h
        exact h
      have HST : Hid (∀ V : Int, V = (put4 ((lsTo N l i)[q]'(by rw [lsTo_len]; exact hq)).toNat k v : Int) → Byt (wr.setCell ⟨g, q, none⟩ (.int .u8 V)) g (lsTo N l (i + 1)) ∧ Only (fun k => k = g) wr (wr.setCell ⟨g, q, none⟩ (.int .u8 V))) := by
        intro V hV
        have hlen := lsTo_len N l i
        have hV2 : V = (put4 (byt (lsTo N l i) (i / 4)) (i % 4) v : Int) := by
          rw [hV, HK.out]
          congr 2
          unfold byt
          rw [HQ.out, List.getD_eq_getElem?_getD, List.getElem?_eq_getElem (by rw [hlen]; exact hq)]
          rfl
        have h := HBY.out.setp (j := i / 4) (n := put4 (byt (lsTo N l i) (i / 4)) (i % 4) v) (by rw [hlen, HQ.out]; exact hq) (put4_lt (byt_lt _ _) (by omega) hv4) hV2
        rw [HQ.out] at h
        rw [lsTo, HV.out]
        unfold stSet
        rw [HQ.out]
        exact h
      obtain ⟨bq, hbq⟩ : ∃ b, ((lsTo N l i)[q]'(by rw [lsTo_len]; exact hq)).toNat = b := ⟨_, rfl⟩
      simp only [hbq] at hBl hbt HD HST
      have HP4 : Hid (put4 bq k v = bq + v * 4 ^ k ∧ bq + v * 4 ^ k < 256) := by
        have h := put4_lt hbt hk4 hv4
        have h2 : put4 bq k v = bq + v * 4 ^ k := by unfold put4; rw [HD.out]; simp
        exact ⟨h2, by rw [← h2]; exact h⟩
      clear HZ HD HK HQ hbq
      go_wp2_with fail
      go_loop [11, 12] (fun a b => ∃ j : Nat, j ≤ k ∧ a = .int .i64 ((v * 4 ^ j : Nat) : Int) ∧ b = .int .i64 (j : Int)) (fun _ b => k - (intOf b).toNat)
      case atStart => exact ⟨0, by omega, by simp, rfl⟩
      case round =>
        obtain ⟨j, hj, rfl, rfl⟩ := hrel
        by_cases hjk : j < k
        · have hp : v * 4 ^ j ≤ 192 := by
            rcases k4 (show j < 4 by omega) with rfl | rfl | rfl | rfl <;> simp only [Nat.reducePow] <;> omega
          have hs : 4 * (v * 4 ^ j) = v * 4 ^ (j + 1) := by rw [Nat.pow_succ]; rw [Nat.mul_comm 4, Nat.mul_assoc]
          obtain ⟨nn, hnn⟩ : ∃ n, v * 4 ^ j = n := ⟨_, rfl⟩
          rw [hnn] at hp hs ⊢
          have HSS := hide hs
          clear hs hnn
          have hjk' : (j : Int) < (k : Int) := by omega
          go_wp2_with fail
          go_round
          case rel => exact ⟨j + 1, by omega, by rw [← HSS.out]; go_num, by go_num⟩
          case measure => simp [intOf]; omega
        · have hjk' : ¬ (j : Int) < (k : Int) := by omega
          have ejk : j = k := by omega
          have HE : Hid (v * 4 ^ j = v * 4 ^ k) := by unfold Hid; rw [ejk]
          obtain ⟨nn, hnn⟩ : ∃ n, v * 4 ^ j = n := ⟨_, rfl⟩
          rw [hnn] at HE ⊢
          have hbd : bq + nn < 256 := by have := HP4.out.2; rw [← HE.out] at this; exact this
          have hb1 : (nn : Int) % 256 = (nn : Int) := by omega
          have hb2 : ((bq : Int) + (nn : Int)) % 256 = (bq : Int) + (nn : Int) := by omega
          clear hnn ejk
          have HST9 := hide (HST.out ((bq : Int) + (nn : Int)) (by rw [HP4.out.1, ← HE.out]; omega))
          go_wp2_with fail
          exact ⟨⟨i + 1, by omega, by go_num, HST9.out.1, HON.out.trans HST9.out.2 (fun _ _ e => e)⟩, by simp [intOf]; omega⟩
    · have ei : i = l.length := by omega
      have hil : ¬ (i : Int) < (l.length : Int) := by omega
      have HBF : Hid (Byt wr g (lsTo N l l.length)) := by have := HBY.out; rw [ei] at this; exact this
      have hSS := HSS.out
      have hT := HTT.out
      have HSE : Hid (S.size ≤ 140737488355328) := by
        have : (sev f.toNat).length ≤ 10 := sevF_len 9 _
        unfold Hid
        rw [← hSS, str_size]
        omega
      have HTE : Hid (T.size ≤ 140737488355328) := by unfold Hid; rw [← hT, str_size, lsTo_len]; omega
      have HCV : Hid (∀ W, Only (fun _ => False) wr W → (convert 58 9 (.slice (some ⟨g, 0, none⟩) N N)).run Try.prog W = .ok (.string T) W) := by
        intro W ho
        have := (HBF.out.kept ho (fun h => h)).back (cp := N)
        rw [lsTo_len, hT] at this
        exact this
      have HK : Hid (∀ X, Only (fun _ => False) (wr.alloc (.cells #[.int .i64 f] 3)) X → Calls Try.prog 52 #[.slice (some ⟨wr.heap.size, 0, none⟩) 1 1] X fun e w' => e = .returned (.string S) ∧ (convert 58 9 (.slice (some ⟨g, 0, none⟩) N N)).run Try.prog w' = .ok (.string T) w' ∧
          (w'.cell? ⟨w.heap.size, 0, none⟩ = some (.int .i64 0) ∧ w'.cell? ⟨w.heap.size, 1, none⟩ = some (.int .i64 0) ∧ w'.cell? ⟨w.heap.size, 2, none⟩ = some (.int .i64 0) ∧ w'.cell? ⟨w.heap.size, 3, none⟩ = some (.int .i64 0) ∧ w'.cell? ⟨w.heap.size, 4, none⟩ = some (.string ⟨#[]⟩) ∧ w'.cell? ⟨w.heap.size, 5, none⟩ = some (.slice none 0 0)) ∧
          (w'.frozen? ⟨w.heap.size, 0, none⟩ = false ∧ w'.frozen? ⟨w.heap.size, 1, none⟩ = false ∧ w'.frozen? ⟨w.heap.size, 2, none⟩ = false ∧ w'.frozen? ⟨w.heap.size, 3, none⟩ = false ∧ w'.frozen? ⟨w.heap.size, 4, none⟩ = false ∧ w'.frozen? ⟨w.heap.size, 5, none⟩ = false) ∧ w.heap.size < w'.heap.size ∧ Hid (Only (fun _ => False) wr w')) := by
        intro X ho
        have hc0 : (wr.alloc (.cells #[.int .i64 f] 3)).cell? ⟨wr.heap.size, 0, none⟩ = some (.int .i64 f) := by simp
        have hlt0 : wr.heap.size < (wr.alloc (.cells #[.int .i64 f] 3)).heap.size := by simp
        have h := refNum_any X [f] wr.heap.size 0 1 (fun k hk => by
            have e : k = 0 := by simpa using hk
            subst e
            exact (ho.cell (p := ⟨wr.heap.size, 0, none⟩) hlt0 (fun h => h)).trans hc0) (fun k hk => by
            have e : k = 0 := by simpa using hk
            subst e
            show f < _
            omega) (Nat.lt_of_lt_of_le hlt0 ho.size) (by simp)
        refine Calls.mono h ?_
        rintro e w' ⟨he, h2⟩
        have ho' := o2 (o2 (onlyA wr (.cells #[.int .i64 f] 3)) ho) h2
        obtain ⟨z0, z1, z2, z3, z4, z5, y0, y1, y2, y3, y4, y5, zl⟩ := HPW.out.more ho'
        refine ⟨?_, HCV.out _ ho', ⟨z0, z1, z2, z3, z4, z5⟩, ⟨y0, y1, y2, y3, y4, y5⟩, zl, ho'⟩
        rw [he, ← hSS]
        simp [nums, str]
      clear hSS hT ei
      have hcv0 := HCV.out _ (Only.drew _ wr)
      have hcv1 := HCV.out _ (o2 (onlyA wr (.cells #[.int .i64 f] 3)) (Only.drew _ _))
      have hwl := HPW.out.lt
      go_upto_region 11 with fail
      go_cut [8] (fun t wc => ∃ g2, t = .pointer (some ⟨w.heap.size, 0, none⟩) ∧ Hid (LaidA w wc lsn g2 S T))
      case first =>
        go_region_with (
          go_at_call 52
          refine (HK.out _ (Only.drew _ _)).mono ?_
          rintro e w9 ⟨rfl, hcv9, ⟨z0, z1, z2, z3, z4, z5⟩, ⟨y0, y1, y2, y3, y4, y5⟩, hlt9, HX9⟩)
        all_goals (go_wp2_with fail; go_meet; exact ⟨_, rfl, LaidA.of (HPW.out.more HX9.out) (o2 HOW.out HX9.out) HSE.out HTE.out⟩)
      case rest =>
        obtain ⟨g2, rfl, HA⟩ := hcut
        go_wp2_with fail
        refine bodyPost_ret (results_page1 rfl rfl HA.out.pag) rfl ?_
        exact ⟨⟨g2, some ⟨g2, 0, none⟩, 2, rfl, HA.out.strs, ⟨(fun h => by cases h), Nat.le_refl _, (by unfold maxLen; omega)⟩, by have := HA.out.new; omega⟩, HA.out.only⟩
end Go.Proofs.Ytcpgflkjeglgbaa
