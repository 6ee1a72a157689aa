/- What the document's Decode does. -/
import Derived.Test.YtebijheonkagfaaGreatDoorKPRefE
import Derived.Test.YtebijheonkagfaaGreatDoorKPd
import Derived.Deep.QuietTactic
import Derived.BigQuiet
namespace Go.Proofs.YtebijheonkagfaaGreatDoor
open Go.RowKit
theorem dec_pre {l : List UInt8} (hl : l.length = 512) (hs : ofTo (l.take 4) = sum (l.drop 4)) {p : Pg} {r : List UInt8} (hp : pre (l.drop 4) = some (p, r)) : p.fits ∧ p.lsn < 9223372036854775808 ∧ dec l = if p.inRange ∧ p.enc = l then (p, 0) else (.none, 31) := by
  have hD : (l.drop 4).length = 508 := by simp; omega
  have hi := pre_is _ _ _ hD hp; have hiff := hi.iff hD; refine ⟨hi.fits, by have := hi.lsn; omega, ?_⟩; unfold dec; rw [if_neg (by omega), if_neg (by simpa using hs), hp]
  simp only
  by_cases hg : good (l.drop 4) p r
  · obtain ⟨hr, hb⟩ := hiff.2 hg
    have he : p.enc = l := by
      unfold Pg.enc; rw [hb]
      have h4 : (l.take 4).length = 4 := by simp; omega
      have := big_ofTo (l.take 4) (by omega); rw [h4] at this; rw [← hs, this, List.take_append_drop]
    rw [if_pos hg, if_pos ⟨hr, he⟩]
  · rw [if_neg hg, if_neg]
    rintro ⟨hr, he⟩; refine hg (hiff.1 ⟨hr, ?_⟩); have := congrArg (List.drop 4) he; unfold Pg.enc at this; rw [List.drop_left' (bigF_len _ _)] at this
    exact this
theorem dec_nopre {l : List UInt8} (hl : l.length = 512) (hs : ofTo (l.take 4) = sum (l.drop 4)) (hp : pre (l.drop 4) = none) : dec l = (.none, 31) := by
  unfold dec; rw [if_neg (by omega), if_neg (by simpa using hs), hp]
theorem ydec_sum {l : List UInt8} (hl : l.length = 512) (hs : ofTo (l.take 4) ≠ sum (l.drop 4)) : dec l = (.none, 30) := by
  unfold dec; rw [if_neg (by omega), if_pos hs]
theorem ydec_len {l : List UInt8} (hl : l.length ≠ 512) : dec l = (.none, 31) := by
  unfold dec; rw [if_pos hl]
theorem get_bl (S : ByteArray) (i : Nat) (h : i < S.size) : (bl S)[i]? = some S[i] := by
  rw [List.getElem?_eq_getElem (by rw [bl_len]; exact h)]
  rfl
def preOf (a k u r : Int) (H : ByteArray) : Option (List ByteArray × List UInt8) → Option (Pg × List UInt8)
  | none => none
  | some (l, t) => some (⟨a, k, u, r, H, l⟩, t)
theorem pre_S (S A1 A4 H : ByteArray) (x12 x13 x18 x19 : UInt8) (h : S.size = 512) (h12 : S[12] = x12) (h13 : S[13] = x13) (h18 : S[18] = x18) (h19 : S[19] = x19) (e1 : S.extract 4 12 = A1) (e4 : S.extract 14 18 = A4) (eH : S.extract 20 (20 + x19.toNat) = H) :
    pre ((bl S).drop 4) = preOf (ofTo (bl A1) % 9223372036854775808) x12.toNat x13.toNat (ofTo (bl A4) % 9223372036854775808) H (takeI x18.toNat ((bl S).drop (20 + x19.toNat))) := by
  have g : ∀ i (hi : i < S.size), ((bl S).drop 4).getD (i - 4) 0 = (if 4 ≤ i then S[i] else ((bl S).drop 4).getD (i - 4) 0) := by
    intro i hi
    split
    · rw [List.getD_eq_getElem?_getD, List.getElem?_drop, show 4 + (i - 4) = i by omega, get_bl S i hi]; rfl
    · rfl
  have g12 := g 12 (by omega); have g13 := g 13 (by omega); have g18 := g 18 (by omega); have g19 := g 19 (by omega); simp only [show (4 ≤ 12) = True by simp, show (4 ≤ 13) = True by simp, show (4 ≤ 18) = True by simp, show (4 ≤ 19) = True by simp, if_true, h12, h13, h18, h19] at g12 g13 g18 g19
  have b1 : bl A1 = ((bl S).drop 4).take 8 := by rw [← e1, ext_bl, List.drop_take]
  have b4 : bl A4 = (((bl S).drop 4).drop 10).take 4 := by rw [← e4, ext_bl, List.drop_take, List.drop_drop]
  have bH : H = str ((((bl S).drop 4).drop 16).take x19.toNat) := by rw [← str_bl H, ← eH, ext_bl, List.drop_take, List.drop_drop, show 20 + x19.toNat - 20 = x19.toNat by omega]
  unfold pre; rw [show 18 - 4 = 14 from rfl] at g18; rw [show 19 - 4 = 15 from rfl] at g19; rw [show 12 - 4 = 8 from rfl] at g12; rw [show 13 - 4 = 9 from rfl] at g13; rw [g12, g13, g18, g19, b1, b4, bH, List.drop_drop (i := 16), List.drop_drop, List.drop_drop]; rw [show 4 + 16 + x19.toNat = 20 + x19.toNat by omega]
  generalize takeI x18.toNat ((bl S).drop (20 + x19.toNat)) = T
  rcases T with _ | ⟨l, r⟩ <;> rfl
structure Dl (w wr : World) (bx : Nat) (a k u r : Int) (H : ByteArray) (v : Value) (acc : List ByteArray) : Prop where
  box : Pag wr bx (.int .i64 a) (.int .i64 k) (.int .i64 u) (.int .i64 r) (.string H) v
  res : Pag wr w.heap.size (.int .i64 0) (.int .i64 0) (.int .i64 0) (.int .i64 0) (.string ⟨#[]⟩) (.slice none 0 0)
  own : Ls wr (bx + 1) v acc
  only : Only (fun _ => False) w wr
  lt : w.heap.size < bx
theorem ls_form {w : World} {base : Nat} {v : Value} {l : List ByteArray} (h : Ls w base v l) : ∃ ao n cp, v = .slice ao n cp := by
  rcases h.2 with ⟨rfl, _⟩ | ⟨g, cap, cur, rfl, _⟩
  · exact ⟨_, _, _, rfl⟩
  · exact ⟨_, _, _, rfl⟩
theorem Dl.more {w wr wr' : World} {bx : Nat} {a k u r : Int} {H : ByteArray} {v : Value} {acc : List ByteArray} (h : Dl w wr bx a k u r H v acc) (ho : Only (fun _ => False) wr wr') : Dl w wr' bx a k u r H v acc :=
  ⟨h.box.more ho, h.res.more ho, h.own.more ho, o2 h.only ho, h.lt⟩
theorem Dl.push {w wr : World} {bx : Nat} {a k u r : Int} {H : ByteArray} {v : Value} {acc : List ByteArray} (h : Dl w wr bx a k u r H v acc) (E : ByteArray) (hE : E.size ≤ 512) (hl : acc.length ≤ 255) :
    ∃ v' w', (Builtin.append_ #[43, 43] 43 #[v, .slice (some ⟨wr.heap.size, 0, none⟩) 1 1]).run Tryz.prog (wr.alloc (.cells #[.string E] 9)) = .ok v' w' ∧ w'.cell? ⟨bx, 5, none⟩ = some v ∧ w'.frozen? ⟨bx, 5, none⟩ = false ∧ Dl w (w'.setCell ⟨bx, 5, none⟩ v') bx a k u r H v' (acc ++ [E]) := by
  have h1 := h.more (onlyA wr (.cells #[.string E] 9)); have hb := h.box.lt; obtain ⟨v', w', hr, hl', ho⟩ := append_strs (wr.alloc (.cells #[.string E] 9)) 43 (bx + 1) v acc h1.own wr.heap.size 1 (some ⟨wr.heap.size, 0, none⟩) [E] (Strs.one wr E (by omega)) ⟨fun h => (by cases h), by simp, (by unfold maxLen; omega)⟩ (by simp; omega) (by simp; omega); have hbox := h1.box.kept ho (by omega); have hlt := h.lt; have hs := h.only.size; refine ⟨v', w', hr, hbox.c5, hbox.f5, ?_⟩; have h3 : Only (fun k => k = bx) w' (w'.setCell ⟨bx, 5, none⟩ v') := Only.setCell w' ⟨bx, 5, none⟩ v' rfl; refine ⟨hbox.set5 v', (h1.res.kept ho (by omega)).kept h3 (by omega), hl'.kept h3 (fun k hk e => ?_), (h1.only.trans ho (fun i hi e => by omega)).trans h3 (fun i hi e => by omega), hlt⟩; have := (World.ownsRow.lt hl' k hk).1
  omega
theorem Dl.high {w wr : World} {bx : Nat} {a k u r : Int} {H H' : ByteArray} {v : Value} {acc : List ByteArray} (h : Dl w wr bx a k u r H v acc) : Dl w (wr.setCell ⟨bx, 4, none⟩ (.string H')) bx a k u r H' v acc := by
  have h3 : Only (fun k => k = bx) wr (wr.setCell ⟨bx, 4, none⟩ (.string H')) := Only.setCell wr ⟨bx, 4, none⟩ _ rfl; have hlt := h.lt; refine ⟨h.box.set4 _, h.res.kept h3 (by omega), h.own.kept h3 (fun k hk e => ?_), h.only.trans h3 (fun i hi e => by omega), hlt⟩; have := (World.ownsRow.lt h.own k hk).1
  omega
theorem Dl.new {w W2 : World} (hO : Only (fun _ => False) w W2) (hP : Pag W2 w.heap.size (.int .i64 0) (.int .i64 0) (.int .i64 0) (.int .i64 0) (.string ⟨#[]⟩) (.slice none 0 0)) (hz : W2.heap.size = w.heap.size + 1) (a k u r : Int) :
    Dl w (W2.drew.alloc (.cells #[.int .i64 a, .int .i64 k, .int .i64 u, .int .i64 r, .string ⟨#[]⟩, .slice none 0 0] 45)) W2.heap.size a k u r ⟨#[]⟩ (.slice none 0 0) [] := by
  have ho : Only (fun _ => False) W2 (W2.drew.alloc (.cells #[.int .i64 a, .int .i64 k, .int .i64 u, .int .i64 r, .string ⟨#[]⟩, .slice none 0 0] 45)) := o2 (Only.drew _ _) (onlyA _ _)
  exact ⟨Pag.new W2.drew _ _ _ _ _ _, hP.more ho, Ls.nil _ _, o2 hO ho, by omega⟩
theorem Dl.none {w wr : World} {bx : Nat} {a k u r : Int} {H : ByteArray} {v : Value} {acc : List ByteArray} (h : Dl w wr bx a k u r H v acc) :
    Only (fun _ => False) w ((((((wr.setCell ⟨w.heap.size, 0, none⟩ (.int .i64 0)).setCell ⟨w.heap.size, 1, none⟩ (.int .i64 0)).setCell ⟨w.heap.size, 2, none⟩ (.int .i64 0)).setCell ⟨w.heap.size, 3, none⟩ (.int .i64 0)).setCell ⟨w.heap.size, 4, none⟩ (.string ⟨#[]⟩)).setCell ⟨w.heap.size, 5, none⟩ (.slice none 0 0)) :=
  h.only.trans (Only.six wr w.heap.size _ _ _ _ _ _) (fun i hi e => by omega)
theorem Res.nil1 {w w' : World} (c : Int) {p : Pg} {k : Int} (he : (p, k) = (Pg.none, c)) (ho : Only (fun _ => False) w w') : Res w w' (.returned (.tuple #[.agg #[.int .i64 0, .int .i64 0, .int .i64 0, .int .i64 0, .string ⟨#[]⟩, .slice Option.none 0 0], .int .i64 c])) p k := by
  injection he with h1 h2
  subst h1; subst h2
  exact Res.none _ ho
structure YParts (S A1 A4 H : ByteArray) (x12 x13 x18 x19 : UInt8) (m : Nat) (a r : Int) : Prop where
  idx : ∃ (n12 : 12 < S.size) (n13 : 13 < S.size) (n18 : 18 < S.size) (n19 : 19 < S.size), S[12]'n12 = x12 ∧ S[13]'n13 = x13 ∧ S[18]'n18 = x18 ∧ S[19]'n19 = x19
  small : x12.toNat < 256 ∧ x13.toNat < 256 ∧ x18.toNat < 256 ∧ x19.toNat < 256 ∧ wrap64 (x12.toNat : Int) = (x12.toNat : Int) ∧ wrap64 (x13.toNat : Int) = (x13.toNat : Int) ∧ wrap64 (x18.toNat : Int) = (x18.toNat : Int) ∧ wrap64 (x19.toNat : Int) = (x19.toNat : Int) ∧ IntKind.i64.wrap (x12.toNat : Int) = (x12.toNat : Int) ∧ IntKind.i64.wrap (x13.toNat : Int) = (x13.toNat : Int) ∧ IntKind.i64.wrap (x18.toNat : Int) = (x18.toNat : Int) ∧ IntKind.i64.wrap (x19.toNat : Int) = (x19.toNat : Int)
  nums : (12 : Int) < (S.size : Int) ∧ (13 : Int) < (S.size : Int) ∧ (18 : Int) < (S.size : Int) ∧ (19 : Int) < (S.size : Int) ∧ (12 : Int) ≤ (S.size : Int) ∧ (18 : Int) ≤ (S.size : Int) ∧ (20 : Int) + (x19.toNat : Int) = (m : Int) ∧ (m : Int) ≤ (S.size : Int) ∧ (20 : Int) ≤ (m : Int) ∧ IntKind.i64.wrap (m : Int) = (m : Int)
  cuts : S.extract 4 12 = A1 ∧ S.extract 14 18 = A4 ∧ S.extract 20 m = H
  c1 : ∀ W, Calls Tryz.prog 86 #[.string A1] W fun e w' => e = .returned (.int .i64 a) ∧ w' = W
  c4 : ∀ W, Calls Tryz.prog 86 #[.string A4] W fun e w' => e = .returned (.int .i64 r) ∧ w' = W
  bd : 0 ≤ a ∧ a < 9223372036854775808
  high : H.size ≤ 255
  m5 : m ≤ 512
  prep : pre ((bl S).drop 4) = preOf a x12.toNat x13.toNat r H (takeI x18.toNat ((bl S).drop m))
theorem yparts_of (S : ByteArray) (h5 : S.size = 512) : ∃ A1 A4 H x12 x13 x18 x19 m a r, YParts S A1 A4 H x12 x13 x18 x19 m a r := by
  have n12 : 12 < S.size := by omega
  have n13 : 13 < S.size := by omega
  have n18 : 18 < S.size := by omega
  have n19 : 19 < S.size := by omega
  have b12 := (S[12]'n12).toNat_lt; have b13 := (S[13]'n13).toNat_lt; have b18 := (S[18]'n18).toNat_lt; have b19 := (S[19]'n19).toNat_lt
  have s1 : (S.extract 4 12).size ≤ maxLen := by rw [ByteArray.size_extract]; unfold maxLen; omega
  have s4 : (S.extract 14 18).size ≤ maxLen := by rw [ByteArray.size_extract]; unfold maxLen; omega
  have sH : (S.extract 20 (20 + (S[19]'n19).toNat)).size ≤ 255 := by rw [ByteArray.size_extract]; omega
  have ha := ofTo_bd (bl (S.extract 4 12)); refine ⟨S.extract 4 12, S.extract 14 18, S.extract 20 (20 + (S[19]'n19).toNat), S[12]'n12, S[13]'n13, S[18]'n18, S[19]'n19, 20 + (S[19]'n19).toNat, ofTo (bl (S.extract 4 12)) % 9223372036854775808, ofTo (bl (S.extract 14 18)) % 9223372036854775808, ⟨n12, n13, n18, n19, rfl, rfl, rfl, rfl⟩, ⟨b12, b13, b18, b19, wb _, wb _, wb _, wb _, wraps_i64 _ (by omega) (by omega), wraps_i64 _ (by omega) (by omega), wraps_i64 _ (by omega) (by omega), wraps_i64 _ (by omega) (by omega)⟩, ⟨by omega, by omega, by omega, by omega, by omega, by omega, rfl, ?_, ?_, ?_⟩, ⟨rfl, rfl, rfl⟩, fun W => refOf_any _ W s1, fun W => refOf_any _ W s4, ⟨by omega, by omega⟩, sH, by omega, pre_S S _ _ _ _ _ _ _ h5 rfl rfl rfl rfl rfl rfl rfl⟩
  · omega
  · omega
  · exact wraps_i64 _ (by omega) (by omega)
theorem y_of (S E0 : ByteArray) (at_ k2 q : Nat) (hk2 : at_ + 2 = k2) (h2 : k2 ≤ 512) (hL : (bl S).length = 512) (hE0 : S.extract at_ k2 = E0) (hqq : (ofTo (((bl S).drop at_).take 2)).toNat = q) :
    (∀ W, Calls Tryz.prog 86 #[.string E0] W fun e w' => e = .returned (.int .i64 (q : Int)) ∧ w' = W) ∧ q < 65536 := by
  have bE0 : bl E0 = ((bl S).drop at_).take 2 := by
    rw [← hE0, ext_bl, List.drop_take, ← hk2]
    congr 1
    omega
  have hl2 : (((bl S).drop at_).take 2).length = 2 := by rw [List.length_take, List.length_drop]; omega
  have hqb := ofTo_small (((bl S).drop at_).take 2) (by omega); rw [hl2, show (256 : Int) ^ 2 = 65536 by decide] at hqb
  have hq0 : ofTo (((bl S).drop at_).take 2) = (q : Int) := by omega
  refine ⟨fun W => ?_, by omega⟩; have h1 := refOf_any E0 W (by rw [← bl_len, bE0, hl2]; unfold maxLen; omega); rw [show E0.data.toList = ((bl S).drop at_).take 2 from bE0, hq0, show (q : Int) % 9223372036854775808 = (q : Int) by omega] at h1
  exact h1
set_option maxRecDepth 100000 in
set_option maxHeartbeats 12000000 in
theorem ydecode_any (w : World) (S : ByteArray) : Calls Tryz.prog 57 #[.string S] w fun e w' => Res w w' e (dec (bl S)).1 (dec (bl S)).2 := by
  have HP := hide (Pag.new w (.int .i64 0) (.int .i64 0) (.int .i64 0) (.int .i64 0) (.string ⟨#[]⟩) (.slice none 0 0)); have HO0 := hide (onlyA w (.cells #[.int .i64 0, .int .i64 0, .int .i64 0, .int .i64 0, .string ⟨#[]⟩, .slice none 0 0] 45)); obtain ⟨W0, hW0⟩ : ∃ W0, w.alloc (.cells #[.int .i64 0, .int .i64 0, .int .i64 0, .int .i64 0, .string ⟨#[]⟩, .slice none 0 0] 45) = W0 := ⟨_, rfl⟩
  have hz0 : W0.heap.size = w.heap.size + 1 := by rw [← hW0]; simp
  rw [hW0] at HP HO0; have HW0 := hide hW0; have HZ0 := hide hz0; clear hW0 hz0; have L := bl_len S
  by_cases h5 : S.size = 512
  · have h5' : ((S.size : Int) != 512) = false := by simp; omega
    have t4 : (4 : Int) ≤ (S.size : Int) := by omega
    obtain ⟨A, hA⟩ : ∃ A, S.extract 0 4 = A := ⟨_, rfl⟩; obtain ⟨D, hD⟩ : ∃ D, S.extract 4 S.size = D := ⟨_, rfl⟩
    have bA : bl A = (bl S).take 4 := by rw [← hA, ext_bl, List.drop_zero]
    have bD : bl D = (bl S).drop 4 := by rw [← hD, ext_bl, List.take_of_length_le (by omega)]
    have sA : A.size = 4 := by rw [← bl_len, bA]; simp; omega
    have sD : D.size = 508 := by rw [← bl_len, bD]; simp; omega
    have hq := ofTo_small ((bl S).take 4) (by simp; omega)
    have l4 : ((bl S).take 4).length = 4 := by simp; omega
    rw [l4, show (256 : Int) ^ 4 = 4294967296 by decide] at hq; obtain ⟨q, hqe⟩ : ∃ q, ofTo ((bl S).take 4) = q := ⟨_, rfl⟩; obtain ⟨z, hz⟩ : ∃ z, sum ((bl S).drop 4) = z := ⟨_, rfl⟩; have hzb := sum_bd ((bl S).drop 4); rw [hqe] at hq; rw [hz] at hzb
    have HOF : Hid (∀ W, Calls Tryz.prog 86 #[.string A] W fun e w' => e = .returned (.int .i64 q) ∧ w' = W) := fun W => by
      have h1 := refOf_any A W (by unfold maxLen; omega); rw [show A.data.toList = (bl S).take 4 from bA, hqe, show q % 9223372036854775808 = q by omega] at h1
      exact h1
    have HSU : Hid (∀ W, Calls Tryz.prog 87 #[.string D] W fun e w' => e = .returned (.int .u32 z) ∧ w' = W) := fun W => by
      have h1 := refSum_any D W (by unfold maxLen; omega); rw [show D.data.toList = (bl S).drop 4 from bD, hz] at h1
      exact h1
    have hL : (bl S).length = 512 := by omega
    have q0 := hq.1; have q1 := hq.2; have z0 := hzb.1; have z1 := hzb.2; have hwz : wrap64 z = z := w64_id z (by omega); have HQE := hide hqe; have HZE := hide hz; have HL := hide hL; have H5 := hide h5; clear hq hzb bA bD sA sD l4 hqe hz hL L h5; obtain ⟨p0, p1, p2, p3, p4, p5, g0, g1, g2, g3, g4, g5, gl⟩ := HP.out
    by_cases hqz : q = z
    · have hne : (q != z) = false := by simp [hqz]
      have HEQ : Hid (ofTo ((bl S).take 4) = sum ((bl S).drop 4)) := by unfold Hid; rw [HQE.out, HZE.out, hqz]
      clear hqz p0 p1 p2 p3 p4 p5 g0 g1 g2 g3 g4 g5 gl
      go_enter Tryz.func57, Tryz.ntmps57
      go_upto_region 1 with fail
      rw [HW0.out]
      go_wp2_with fail
      go_quiet ((first | (go_at_call 86; exact Calls.quiet_of_same (HOF.out _)) | (go_at_call 87; exact Calls.quiet_of_same (HSU.out _))))
      go_upto_region 5 with fail
      have HO2 := hide (o2 HO0.out (onlyN W0 nq)); have HP2 := hide (HP.out.more (onlyN W0 nq)); obtain ⟨W2, hW2⟩ : ∃ W2, W0.drewN nq = W2 := ⟨_, rfl⟩; rw [hW2] at HO2 HP2 ⊢; obtain ⟨A1, A4, H, x12, x13, x18, x19, m, a, r, F⟩ := yparts_of S H5.out; have HF := hide F; obtain ⟨n12, n13, n18, n19, i12, i13, i18, i19⟩ := F.idx; obtain ⟨b12, b13, b18, b19, w12, w13, w18, w19, k12, k13, k18, k19⟩ := F.small; obtain ⟨c12, c13, c18, c19, d12, d18, hmI, hm5, hm20, hwm⟩ := F.nums; obtain ⟨e1, e4, eH⟩ := F.cuts; have HA1 := hide F.c1; have HA4 := hide F.c4; clear F
      have HZW : Hid (W2.heap.size = w.heap.size + 1) := by unfold Hid; rw [← hW2]; exact HZ0.out
      clear hW2 HOF HSU hA hD
      go_cut [4] (fun t wc => t = .pointer (some ⟨W2.heap.size, 0, none⟩) ∧ Hid (Dl w wc W2.heap.size a x12.toNat x13.toNat r ⟨#[]⟩ (.slice none 0 0) []))
      case first =>
        -- {r5
        refine wp_region_noPanic ?_; refine wp_region_held_drew (S := fun _ => True) (by kernel_rfl) (trivial) (fun hHeld => ?_); refine tkQ (i := 0) (oi := { dst := some 24, op := Op.move (Operand.tmp 0), type := 9, pos := "ref.go:50", after := #[], guard := none }) (v := .string S) rfl (by kernel_rfl) (Or.inl ⟨by rfl, fun w' hSw => by clear hSw; go_simp⟩) (by assumption) ?_; simp only [Act.put, lsA, lsB, lsC]; refine tkQ (i := 3) (oi := { dst := some 27, op := Op.move (Operand.tmp 0), type := 9, pos := "ref.go:50", after := #[], guard := none }) (v := .string S) rfl (by kernel_rfl) (Or.inl ⟨by rfl, fun w' hSw => by clear hSw; go_simp⟩) (by assumption) ?_; simp only [Act.put, lsA, lsB, lsC]; refine tkQ (i := 6) (oi := { dst := some 30, op := Op.move (Operand.tmp 0), type := 9, pos := "ref.go:50", after := #[], guard := none }) (v := .string S) rfl (by kernel_rfl) (Or.inl ⟨by rfl, fun w' hSw => by clear hSw; go_simp⟩) (by assumption) ?_; simp only [Act.put, lsA, lsB, lsC]; refine tkQ (i := 9) (oi := { dst := some 33, op := Op.move (Operand.tmp 0), type := 9, pos := "ref.go:50", after := #[], guard := none }) (v := .string S) rfl (by kernel_rfl) (Or.inl ⟨by rfl, fun w' hSw => by clear hSw; go_simp⟩) (by assumption) ?_; simp only [Act.put, lsA, lsB, lsC]; refine tkQ (i := 1) (oi := { dst := some 25, op := Op.slice 9 (Operand.tmp 24) (some (Operand.const (Value.int IntKind.i64 4))) (some (Operand.const (Value.int IntKind.i64 12))) none, type := 9, pos := "ref.go:50", after := #[{ on := 0, ground := Ground.data }], guard := none }) (v := .string A1) rfl (by kernel_rfl) (Or.inl ⟨by rfl, fun w' hSw => by clear hSw; go_simp⟩) (by assumption) ?_
        simp only [Act.put, lsA, lsB, lsC]; refine tkQ (i := 4) (oi := { dst := some 28, op := Op.index 9 (Operand.tmp 27) (Operand.const (Value.int IntKind.i64 12)), type := 5, pos := "ref.go:50", after := #[{ on := 3, ground := Ground.data }], guard := none }) (v := .int .u8 (x12.toNat : Int)) rfl (by kernel_rfl) (Or.inl ⟨by rfl, fun w' hSw => by clear hSw; go_simp⟩) (by assumption) ?_; simp only [Act.put, lsA, lsB, lsC]; refine tkQ (i := 7) (oi := { dst := some 31, op := Op.index 9 (Operand.tmp 30) (Operand.const (Value.int IntKind.i64 13)), type := 5, pos := "ref.go:50", after := #[{ on := 6, ground := Ground.data }], guard := none }) (v := .int .u8 (x13.toNat : Int)) rfl (by kernel_rfl) (Or.inl ⟨by rfl, fun w' hSw => by clear hSw; go_simp⟩) (by assumption) ?_; simp only [Act.put, lsA, lsB, lsC]; refine tkQ (i := 10) (oi := { dst := some 34, op := Op.slice 9 (Operand.tmp 33) (some (Operand.const (Value.int IntKind.i64 14))) (some (Operand.const (Value.int IntKind.i64 18))) none, type := 9, pos := "ref.go:50", after := #[{ on := 9, ground := Ground.data }], guard := none }) (v := .string A4) rfl (by kernel_rfl) (Or.inl ⟨by rfl, fun w' hSw => by clear hSw; go_simp⟩) (by assumption) ?_; simp only [Act.put, lsA, lsB, lsC]; refine tkQ (i := 5) (oi := { dst := some 29, op := Op.convert 5 3 (Operand.tmp 28), type := 3, pos := "ref.go:50", after := #[{ on := 4, ground := Ground.data }], guard := none }) (v := .int .i64 (x12.toNat : Int)) rfl (by kernel_rfl) (Or.inl ⟨by rfl, fun w' hSw => by clear hSw; go_simp⟩) (by assumption) ?_
        simp only [Act.put, lsA, lsB, lsC]; refine tkQ (i := 8) (oi := { dst := some 32, op := Op.convert 5 3 (Operand.tmp 31), type := 3, pos := "ref.go:50", after := #[{ on := 7, ground := Ground.data }], guard := none }) (v := .int .i64 (x13.toNat : Int)) rfl (by kernel_rfl) (Or.inl ⟨by rfl, fun w' hSw => by clear hSw; go_simp⟩) (by assumption) ?_; simp only [Act.put, lsA, lsB, lsC]; refine wpAnyH_ready (rs := [2, 13]) (by kernel_rfl) (by simp) ?_; refine AllReadyH.cons (o := { dst := some 26, op := Op.call { callee := Callee.value (Operand.func 86), args := #[Operand.tmp 25], argTypes := #[9] }, type := 3, pos := "ref.go:50", after := #[{ on := 1, ground := Ground.data }], guard := none }) rfl (fun K hK => ?_) (AllReadyH.cons (o := { dst := some 4, op := Op.alloc 45, type := 0, pos := "ref.go:50", after := #[], guard := none }) rfl (fun K hK => ?_) (AllReadyH.nil))
        · go_simp
          refine (HA1.out _).mono ?_; rintro e x1 ⟨rfl, rfl⟩; refine hK.out _ _ (trivial) (fun hHeld => ?_); clear hK K
          try simp only [Act.put, lsA, lsB, lsC]
          refine wpAnyH_ready (rs := [11, 13]) (by kernel_rfl) (by simp) ?_; refine AllReadyH.cons (o := { dst := some 35, op := Op.call { callee := Callee.value (Operand.func 86), args := #[Operand.tmp 34], argTypes := #[9] }, type := 3, pos := "ref.go:50", after := #[{ on := 10, ground := Ground.data }, { on := 2, ground := Ground.chain }], guard := none }) rfl (fun K hK => ?_) (AllReadyH.cons (o := { dst := some 4, op := Op.alloc 45, type := 0, pos := "ref.go:50", after := #[], guard := none }) rfl (fun K hK => ?_) (AllReadyH.nil))
          · go_simp
            refine (HA4.out _).mono ?_; rintro e x2 ⟨rfl, rfl⟩; refine hK.out _ _ (trivial) (fun hHeld => ?_); clear hK K
            try simp only [Act.put, lsA, lsB, lsC]
            refine tkQ (i := 12) (oi := { dst := some 36, op := Op.build 45 #[(0, Operand.tmp 26), (1, Operand.tmp 29), (2, Operand.tmp 32), (3, Operand.tmp 35)], type := 45, pos := "ref.go:50", after := #[{ on := 2, ground := Ground.data }, { on := 5, ground := Ground.data }, { on := 8, ground := Ground.data }, { on := 11, ground := Ground.data }], guard := none }) (v := .agg #[.int .i64 a, .int .i64 (x12.toNat : Int), .int .i64 (x13.toNat : Int), .int .i64 r, .string ⟨#[]⟩, .slice none 0 0]) rfl (by kernel_rfl) (Or.inl ⟨by rfl, fun w' hSw => by clear hSw; go_simp⟩) (by assumption) ?_; simp only [Act.put, lsA, lsB, lsC]; refine wpAnyH_ready (rs := [13]) (by kernel_rfl) (by simp) ?_; refine AllReadyH.cons (o := { dst := some 4, op := Op.alloc 45, type := 0, pos := "ref.go:50", after := #[], guard := none }) rfl (fun K hK => ?_) (AllReadyH.nil)
            go_simp
            refine hK.out _ _ (trivial) (fun hHeld => ?_); clear hK K
            try simp only [Act.put, lsA, lsB, lsC]
            refine wpAnyH_ready (rs := [14]) (by kernel_rfl) (by simp) ?_; refine AllReadyH.cons (o := { dst := none, op := Op.store 45 (Operand.tmp 4) (Operand.tmp 36), type := 0, pos := "ref.go:50", after := #[{ on := 13, ground := Ground.data }, { on := 12, ground := Ground.data }, { on := 11, ground := Ground.chain }, { on := 0, ground := Ground.phase }, { on := 1, ground := Ground.phase }, { on := 2, ground := Ground.phase }, { on := 3, ground := Ground.phase }, { on := 4, ground := Ground.phase }, { on := 5, ground := Ground.phase }, { on := 6, ground := Ground.phase }, { on := 7, ground := Ground.phase }, { on := 8, ground := Ground.phase }, { on := 9, ground := Ground.phase }, { on := 10, ground := Ground.phase }, { on := 11, ground := Ground.phase }, { on := 12, ground := Ground.phase }, { on := 13, ground := Ground.phase }], guard := none }) rfl (fun K hK => ?_) (AllReadyH.nil)
            go_simp
            refine hK.out _ _ (trivial) (fun hHeld => ?_); clear hK K
            try simp only [Act.put, lsA, lsB, lsC]
            refine wpAnyH_done (by kernel_rfl) ?_ _; refine NoPanic.normal ?_
            go_wp2_with fail
            go_meet
            exact ⟨rfl, Dl.new HO2.out HP2.out HZW.out _ _ _ _⟩
          · go_simp
            refine hK.out _ _ (trivial) (fun hHeld => ?_); clear hK K
            try simp only [Act.put, lsA, lsB, lsC]
            refine wpAnyH_ready (rs := [11]) (by kernel_rfl) (by simp) ?_; refine AllReadyH.cons (o := { dst := some 35, op := Op.call { callee := Callee.value (Operand.func 86), args := #[Operand.tmp 34], argTypes := #[9] }, type := 3, pos := "ref.go:50", after := #[{ on := 10, ground := Ground.data }, { on := 2, ground := Ground.chain }], guard := none }) rfl (fun K hK => ?_) (AllReadyH.nil)
            go_simp
            refine (HA4.out _).mono ?_; rintro e x2 ⟨rfl, rfl⟩; refine hK.out _ _ (trivial) (fun hHeld => ?_); clear hK K
            try simp only [Act.put, lsA, lsB, lsC]
            refine tkQ (i := 12) (oi := { dst := some 36, op := Op.build 45 #[(0, Operand.tmp 26), (1, Operand.tmp 29), (2, Operand.tmp 32), (3, Operand.tmp 35)], type := 45, pos := "ref.go:50", after := #[{ on := 2, ground := Ground.data }, { on := 5, ground := Ground.data }, { on := 8, ground := Ground.data }, { on := 11, ground := Ground.data }], guard := none }) (v := .agg #[.int .i64 a, .int .i64 (x12.toNat : Int), .int .i64 (x13.toNat : Int), .int .i64 r, .string ⟨#[]⟩, .slice none 0 0]) rfl (by kernel_rfl) (Or.inl ⟨by rfl, fun w' hSw => by clear hSw; go_simp⟩) (by assumption) ?_; simp only [Act.put, lsA, lsB, lsC]; refine wpAnyH_ready (rs := [14]) (by kernel_rfl) (by simp) ?_; refine AllReadyH.cons (o := { dst := none, op := Op.store 45 (Operand.tmp 4) (Operand.tmp 36), type := 0, pos := "ref.go:50", after := #[{ on := 13, ground := Ground.data }, { on := 12, ground := Ground.data }, { on := 11, ground := Ground.chain }, { on := 0, ground := Ground.phase }, { on := 1, ground := Ground.phase }, { on := 2, ground := Ground.phase }, { on := 3, ground := Ground.phase }, { on := 4, ground := Ground.phase }, { on := 5, ground := Ground.phase }, { on := 6, ground := Ground.phase }, { on := 7, ground := Ground.phase }, { on := 8, ground := Ground.phase }, { on := 9, ground := Ground.phase }, { on := 10, ground := Ground.phase }, { on := 11, ground := Ground.phase }, { on := 12, ground := Ground.phase }, { on := 13, ground := Ground.phase }], guard := none }) rfl (fun K hK => ?_) (AllReadyH.nil)
            go_simp
            refine hK.out _ _ (trivial) (fun hHeld => ?_); clear hK K
            try simp only [Act.put, lsA, lsB, lsC]
            refine wpAnyH_done (by kernel_rfl) ?_ _; refine NoPanic.normal ?_
            go_wp2_with fail
            go_meet
            exact ⟨rfl, Dl.new HO2.out HP2.out HZW.out _ _ _ _⟩
        · go_simp
          refine hK.out _ _ (trivial) (fun hHeld => ?_); clear hK K
          try simp only [Act.put, lsA, lsB, lsC]
          refine wpAnyH_ready (rs := [2]) (by kernel_rfl) (by simp) ?_; refine AllReadyH.cons (o := { dst := some 26, op := Op.call { callee := Callee.value (Operand.func 86), args := #[Operand.tmp 25], argTypes := #[9] }, type := 3, pos := "ref.go:50", after := #[{ on := 1, ground := Ground.data }], guard := none }) rfl (fun K hK => ?_) (AllReadyH.nil)
          go_simp
          refine (HA1.out _).mono ?_; rintro e x1 ⟨rfl, rfl⟩; refine hK.out _ _ (trivial) (fun hHeld => ?_); clear hK K
          try simp only [Act.put, lsA, lsB, lsC]
          refine wpAnyH_ready (rs := [11]) (by kernel_rfl) (by simp) ?_; refine AllReadyH.cons (o := { dst := some 35, op := Op.call { callee := Callee.value (Operand.func 86), args := #[Operand.tmp 34], argTypes := #[9] }, type := 3, pos := "ref.go:50", after := #[{ on := 10, ground := Ground.data }, { on := 2, ground := Ground.chain }], guard := none }) rfl (fun K hK => ?_) (AllReadyH.nil)
          go_simp
          refine (HA4.out _).mono ?_; rintro e x2 ⟨rfl, rfl⟩; refine hK.out _ _ (trivial) (fun hHeld => ?_); clear hK K
          try simp only [Act.put, lsA, lsB, lsC]
          refine tkQ (i := 12) (oi := { dst := some 36, op := Op.build 45 #[(0, Operand.tmp 26), (1, Operand.tmp 29), (2, Operand.tmp 32), (3, Operand.tmp 35)], type := 45, pos := "ref.go:50", after := #[{ on := 2, ground := Ground.data }, { on := 5, ground := Ground.data }, { on := 8, ground := Ground.data }, { on := 11, ground := Ground.data }], guard := none }) (v := .agg #[.int .i64 a, .int .i64 (x12.toNat : Int), .int .i64 (x13.toNat : Int), .int .i64 r, .string ⟨#[]⟩, .slice none 0 0]) rfl (by kernel_rfl) (Or.inl ⟨by rfl, fun w' hSw => by clear hSw; go_simp⟩) (by assumption) ?_; simp only [Act.put, lsA, lsB, lsC]; refine wpAnyH_ready (rs := [14]) (by kernel_rfl) (by simp) ?_; refine AllReadyH.cons (o := { dst := none, op := Op.store 45 (Operand.tmp 4) (Operand.tmp 36), type := 0, pos := "ref.go:50", after := #[{ on := 13, ground := Ground.data }, { on := 12, ground := Ground.data }, { on := 11, ground := Ground.chain }, { on := 0, ground := Ground.phase }, { on := 1, ground := Ground.phase }, { on := 2, ground := Ground.phase }, { on := 3, ground := Ground.phase }, { on := 4, ground := Ground.phase }, { on := 5, ground := Ground.phase }, { on := 6, ground := Ground.phase }, { on := 7, ground := Ground.phase }, { on := 8, ground := Ground.phase }, { on := 9, ground := Ground.phase }, { on := 10, ground := Ground.phase }, { on := 11, ground := Ground.phase }, { on := 12, ground := Ground.phase }, { on := 13, ground := Ground.phase }], guard := none }) rfl (fun K hK => ?_) (AllReadyH.nil)
          go_simp
          refine hK.out _ _ (trivial) (fun hHeld => ?_); clear hK K
          try simp only [Act.put, lsA, lsB, lsC]
          refine wpAnyH_done (by kernel_rfl) ?_ _; refine NoPanic.normal ?_
          go_wp2_with fail
          go_meet
          exact ⟨rfl, Dl.new HO2.out HP2.out HZW.out _ _ _ _⟩
        -- r5}
      case rest =>
        obtain ⟨rfl, HD⟩ := hcut; obtain ⟨bx, hbx⟩ : ∃ bx, W2.heap.size = bx := ⟨_, rfl⟩; rw [hbx] at HD ⊢; have HBX := hide hbx; clear hbx; obtain ⟨p0, p1, p2, p3, p4, p5, g0, g1, g2, g3, g4, g5, gl⟩ := HD.out.box; have HD1 := hide (HD.out.high (H' := H))
        have HT : Hid (more [] (takeI (x18.toNat - 0) ((bl S).drop m)) = takeI x18.toNat ((bl S).drop m)) := by unfold Hid; rw [more_nil]; rfl
        obtain ⟨T, hT⟩ : ∃ T, takeI x18.toNat ((bl S).drop m) = T := ⟨_, rfl⟩
        have HPR : Hid (pre ((bl S).drop 4) = preOf a x12.toNat x13.toNat r H T) := by unfold Hid; rw [HF.out.prep, hT]
        rw [hT] at HT; clear hT; have hm512 := HF.out.m5
        go_upto_region 8 with fail
        go_wp2_with fail
        have HU := hide (And.intro hm512 HF.out.high); clear i12 i13 i18 i19 n12 n13 n18 n19 w12 w13 w18 w19 k12 k13 k18 k19 c12 c13 c18 c19 d12 d18 b12 b13 b19 e1 e4 eH hmI hm5 hm20 hwm HA1 HA4 h5' t4 hne hwz q0 q1 z0 z1; clear p0 p1 p2 p3 p4 p5 g0 g1 g2 g3 g4 g5 gl
        have hS1 : (512 : Int) ≤ (S.size : Int) := by rw [H5.out]; decide
        go_loopw [6, 7, 8] (fun x y _ wr => ∃ (at_ i : Nat) (acc : List ByteArray) (v : Value), i ≤ x18.toNat ∧ at_ ≤ 512 ∧ x = .int .i64 (at_ : Int) ∧ y = .int .i64 (i : Int) ∧ acc.length = i ∧ Hid (∀ s ∈ acc, s.size ≤ 512) ∧ Hid (more acc (takeI (x18.toNat - i) ((bl S).drop at_)) = T) ∧ Hid (Dl w wr bx a x12.toNat x13.toNat r H v acc)) (fun _ y _ _ => x18.toNat - (intOf y).toNat)
        case atStart => exact ⟨m, 0, [], _, by omega, hm512, rfl, rfl, rfl, hide (fun s h => by cases h), HT, HD1⟩
        case round =>
          obtain ⟨at_, i, acc, v, hi, hat, rfl, rfl, hacc, HA, HM, HDr⟩ := hrel; clear hm512
          by_cases hlt : i < x18.toNat
          · have hi1 : (i : Int) < (x18.toNat : Int) := by omega
            obtain ⟨q0, q1, q2, q3, q4, q5, t0, t1, t2, t3, t4, t5, tl⟩ := HDr.out.res
            have hdl : ((bl S).drop at_).length = 512 - at_ := by rw [List.length_drop, HL.out]
            have hMn : x18.toNat - i = (x18.toNat - i - 1) + 1 := by omega
            have HMN := hide hMn; obtain ⟨k2, hk2⟩ : ∃ k2 : Nat, at_ + 2 = k2 := ⟨_, rfl⟩
            have hk2I : (at_ : Int) + 2 = (k2 : Int) := by omega
            have hwk2 : IntKind.i64.wrap (k2 : Int) = (k2 : Int) := wraps_i64 _ (by omega) (by omega); clear hMn
            by_cases h2 : 512 < k2
            · have h2' : (512 : Int) < (k2 : Int) := by omega
              have HN : Hid (T = none) := by
                unfold Hid; rw [← HM.out, HMN.out]
                exact takeI_short acc (by omega)
              have HEQD : Hid (dec (bl S) = (.none, 31)) := dec_nopre HL.out HEQ.out (by rw [HPR.out, HN.out]; rfl); have HON := hide HDr.out.none; have HRS := hide HDr.out.res; clear hdl h2 hk2
              go_wp2_with fail
              refine bodyPost_ret (results_page rfl rfl (Pag.six HRS.out _ _ _ _ _ _)) rfl ?_
              exact Res.nil1 31 HEQD.out HON.out
            · have h2' : ¬ (512 : Int) < (k2 : Int) := by omega
              have h2S : (k2 : Int) ≤ (S.size : Int) := by omega
              have h2a : (at_ : Int) ≤ (k2 : Int) := by omega
              have h20 : (0 : Int) ≤ (at_ : Int) := by omega
              obtain ⟨E0, hE0⟩ : ∃ E0, S.extract at_ k2 = E0 := ⟨_, rfl⟩; obtain ⟨q, hqq⟩ : ∃ q, (ofTo (((bl S).drop at_).take 2)).toNat = q := ⟨_, rfl⟩; obtain ⟨HOF, hq5⟩ := y_of S E0 at_ k2 q hk2 (by omega) HL.out hE0 hqq; obtain ⟨k3, hk3⟩ : ∃ k3 : Nat, k2 + q = k3 := ⟨_, rfl⟩
              have hk3I : (k2 : Int) + (q : Int) = (k3 : Int) := by omega
              have hwk3 : IntKind.i64.wrap (k3 : Int) = (k3 : Int) := wraps_i64 _ (by omega) (by omega); have HOFH := hide HOF; clear HOF
              go_wp2_with fail
              refine (HOFH.out _).mono ?_; rintro e w2 ⟨rfl, rfl⟩
              by_cases h3 : 512 < k3
              · have h3' : (512 : Int) < (k3 : Int) := by omega
                have HN : Hid (T = none) := by
                  unfold Hid; rw [← HM.out, HMN.out]
                  exact takeI_long acc (by omega) (by rw [hqq, List.length_drop, hdl]; omega)
                have HEQD : Hid (dec (bl S) = (.none, 31)) := dec_nopre HL.out HEQ.out (by rw [HPR.out, HN.out]; rfl); have HON := hide HDr.out.none; have HRS := hide HDr.out.res; clear hdl h2 hk2 h3 hk3 hqq
                go_wp2_with fail
                refine bodyPost_ret (results_page rfl rfl (Pag.six HRS.out _ _ _ _ _ _)) rfl ?_
                exact Res.nil1 31 HEQD.out HON.out
              · have h3' : ¬ (512 : Int) < (k3 : Int) := by omega
                have h3S : (k3 : Int) ≤ (S.size : Int) := by omega
                have h3a : (k2 : Int) ≤ (k3 : Int) := by omega
                have h30 : (0 : Int) ≤ (k2 : Int) := by omega
                obtain ⟨E2, hE2⟩ : ∃ E2, S.extract k2 k3 = E2 := ⟨_, rfl⟩
                have HE2 : Hid (E2 = str ((((bl S).drop at_).drop 2).take q)) := by
                  unfold Hid; rw [← str_bl E2, ← hE2, ext_bl, List.drop_take, List.drop_drop, hk2]
                  congr 2
                  omega
                have he2 : E2.size ≤ 512 := by rw [HE2.out, str_size, List.length_take]; omega
                have HM2 : Hid (more (acc ++ [E2]) (takeI (x18.toNat - (i + 1)) ((bl S).drop k3)) = T) := by
                  unfold Hid; rw [← HM.out, HMN.out, takeI_next acc (by omega) (by rw [hqq, List.length_drop, hdl]; omega), hqq, HE2.out, List.drop_drop, List.drop_drop, hk2, hk3]
                  rfl
                have HA2 : Hid (∀ s ∈ acc ++ [E2], s.size ≤ 512) := by
                  intro s hs
                  rcases List.mem_append.1 hs with hs | hs
                  · exact HA.out s hs
                  · simp at hs; rw [hs]; exact he2
                obtain ⟨v4, w4, r4, c5, f5, hD4⟩ := (HDr.out.more (Only.drew _ w2)).push E2 he2 (by omega); obtain ⟨ao4, n4, cp4, rfl⟩ : ∃ ao4 n4 cp4, v4 = .slice ao4 n4 cp4 := ls_form hD4.own; have hrun : (Builtin.append_ #[43, 43] 43 #[v, .slice (some ⟨w2.heap.size, 0, none⟩) 1 1]).run Tryz.prog (w2.drew.alloc (.cells #[.string E2] 9)) = .ok (.slice ao4 n4 cp4) w4 := r4; have HR4 := hide hrun; have HD4 := hide hD4; obtain ⟨p0, p1, p2, p3, p4, p5, g0, g1, g2, g3, g4, g5, gl⟩ := HDr.out.box
                have hk312 : k3 ≤ 512 := by omega
                have hacc2 : (acc ++ [E2]).length = i + 1 := by simp [hacc]
                clear r4 hrun hD4 HE2 hE0 hqq hk2 hk3 h2 h3 hdl q0 q1 q2 q3 q4 q5 t0 t1 t2 t3 t4 t5 tl
                go_upto_region 17 with fail
                -- {r17
                refine wp_region_noPanic ?_; refine wp_region_held_drew (S := fun _ => True) (by kernel_rfl) (trivial) (fun hHeld => ?_); refine tkQ (i := 0) (oi := { dst := some 69, op := Op.fieldAddr 45 (Operand.tmp 4) 5, type := 0, pos := "ref.go:62", after := #[], guard := none }) (v := .pointer (some ⟨bx, 5, none⟩)) rfl (by kernel_rfl) (Or.inl ⟨by rfl, fun w' hSw => by clear hSw; go_simp⟩) (by assumption) ?_; simp only [Act.put, lsA, lsB, lsC]; refine tkQ (i := 2) (oi := { dst := some 71, op := Op.move (Operand.tmp 0), type := 9, pos := "ref.go:62", after := #[], guard := none }) (v := .string S) rfl (by kernel_rfl) (Or.inl ⟨by rfl, fun w' hSw => by clear hSw; go_simp⟩) (by assumption) ?_; simp only [Act.put, lsA, lsB, lsC]; refine tkQ (i := 3) (oi := { dst := some 72, op := Op.move (Operand.tmp 6), type := 3, pos := "ref.go:62", after := #[], guard := none }) (v := .int .i64 (at_ : Int)) rfl (by kernel_rfl) (Or.inl ⟨by rfl, fun w' hSw => by clear hSw; go_simp⟩) (by assumption) ?_; simp only [Act.put, lsA, lsB, lsC]; refine tkQ (i := 5) (oi := { dst := some 74, op := Op.move (Operand.tmp 6), type := 3, pos := "ref.go:62", after := #[], guard := none }) (v := .int .i64 (at_ : Int)) rfl (by kernel_rfl) (Or.inl ⟨by rfl, fun w' hSw => by clear hSw; go_simp⟩) (by assumption) ?_; simp only [Act.put, lsA, lsB, lsC]; refine tkQ (i := 7) (oi := { dst := some 76, op := Op.move (Operand.tmp 8), type := 3, pos := "ref.go:62", after := #[], guard := none }) (v := .int .i64 (q : Int)) rfl (by kernel_rfl) (Or.inl ⟨by rfl, fun w' hSw => by clear hSw; go_simp⟩) (by assumption) ?_
                simp only [Act.put, lsA, lsB, lsC]; refine tkQ (i := 4) (oi := { dst := some 73, op := Op.binOp BinOp.add 3 (Operand.tmp 72) (Operand.const (Value.int IntKind.i64 2)) 3, type := 3, pos := "ref.go:62", after := #[{ on := 3, ground := Ground.data }], guard := none }) (v := .int .i64 (k2 : Int)) rfl (by kernel_rfl) (Or.inl ⟨by rfl, fun w' hSw => by clear hSw; go_simp⟩) (by assumption) ?_; simp only [Act.put, lsA, lsB, lsC]; refine tkQ (i := 6) (oi := { dst := some 75, op := Op.binOp BinOp.add 3 (Operand.tmp 74) (Operand.const (Value.int IntKind.i64 2)) 3, type := 3, pos := "ref.go:62", after := #[{ on := 5, ground := Ground.data }], guard := none }) (v := .int .i64 (k2 : Int)) rfl (by kernel_rfl) (Or.inl ⟨by rfl, fun w' hSw => by clear hSw; go_simp⟩) (by assumption) ?_; simp only [Act.put, lsA, lsB, lsC]; refine tkQ (i := 8) (oi := { dst := some 77, op := Op.binOp BinOp.add 3 (Operand.tmp 75) (Operand.tmp 76) 3, type := 3, pos := "ref.go:62", after := #[{ on := 6, ground := Ground.data }, { on := 7, ground := Ground.data }], guard := none }) (v := .int .i64 (k3 : Int)) rfl (by kernel_rfl) (Or.inl ⟨by rfl, fun w' hSw => by clear hSw; go_simp⟩) (by assumption) ?_; simp only [Act.put, lsA, lsB, lsC]; refine tkQ (i := 9) (oi := { dst := some 78, op := Op.slice 9 (Operand.tmp 71) (some (Operand.tmp 73)) (some (Operand.tmp 77)) none, type := 9, pos := "ref.go:62", after := #[{ on := 2, ground := Ground.data }, { on := 4, ground := Ground.data }, { on := 8, ground := Ground.data }], guard := none }) (v := .string E2) rfl (by kernel_rfl) (Or.inl ⟨by rfl, fun w' hSw => by clear hSw; go_simp⟩) (by assumption) ?_
                simp only [Act.put, lsA, lsB, lsC]; refine wpAnyH_ready (rs := [1, 10]) (by kernel_rfl) (by simp) ?_; refine AllReadyH.cons (o := { dst := some 70, op := Op.load 43 (Operand.tmp 69), type := 43, pos := "ref.go:62", after := #[{ on := 0, ground := Ground.data }], guard := none }) rfl (fun K hK => ?_) (AllReadyH.cons (o := { dst := some 79, op := Op.buildSlice 43 1 #[(0, Operand.tmp 78)], type := 43, pos := "ref.go:62", after := #[{ on := 9, ground := Ground.data }], guard := none }) rfl (fun K hK => ?_) (AllReadyH.nil))
                · go_simp
                  refine hK.out _ _ (trivial) (fun hHeld => ?_); clear hK K
                  try simp only [Act.put, lsA, lsB, lsC]
                  refine wpAnyH_ready (rs := [10]) (by kernel_rfl) (by simp) ?_; refine AllReadyH.cons (o := { dst := some 79, op := Op.buildSlice 43 1 #[(0, Operand.tmp 78)], type := 43, pos := "ref.go:62", after := #[{ on := 9, ground := Ground.data }], guard := none }) rfl (fun K hK => ?_) (AllReadyH.nil)
                  go_simp
                  refine hK.out _ _ (trivial) (fun hHeld => ?_); clear hK K
                  try simp only [Act.put, lsA, lsB, lsC]
                  refine wpAnyH_ready (rs := [11]) (by kernel_rfl) (by simp) ?_; refine AllReadyH.cons (o := { dst := some 80, op := Op.call { callee := Callee.builtin Builtin.append, args := #[Operand.tmp 70, Operand.tmp 79], argTypes := #[43, 43] }, type := 43, pos := "ref.go:62", after := #[{ on := 1, ground := Ground.data }, { on := 10, ground := Ground.data }], guard := none }) rfl (fun K hK => ?_) (AllReadyH.nil); rw [if_pos (by rfl)]; refine Lib.wp_append_run _ (.tmp 70) (.tmp 79) _ _ rfl _ _ rfl rfl _ _ HR4.out ?_; refine hK.out _ _ (trivial) (fun hHeld => ?_); clear hK K
                  try simp only [Act.put, lsA, lsB, lsC]
                  refine tkQ (i := 12) (oi := { dst := some 81, op := Op.fieldAddr 45 (Operand.tmp 4) 5, type := 0, pos := "ref.go:62", after := #[{ on := 0, ground := Ground.phase }, { on := 1, ground := Ground.phase }, { on := 2, ground := Ground.phase }, { on := 3, ground := Ground.phase }, { on := 4, ground := Ground.phase }, { on := 5, ground := Ground.phase }, { on := 6, ground := Ground.phase }, { on := 7, ground := Ground.phase }, { on := 8, ground := Ground.phase }, { on := 9, ground := Ground.phase }, { on := 10, ground := Ground.phase }, { on := 11, ground := Ground.phase }], guard := none }) (v := .pointer (some ⟨bx, 5, none⟩)) rfl (by kernel_rfl) (Or.inl ⟨by rfl, fun w' hSw => by clear hSw; go_simp⟩) (by assumption) ?_; simp only [Act.put, lsA, lsB, lsC]; refine wpAnyH_ready (rs := [13]) (by kernel_rfl) (by simp) ?_; refine AllReadyH.cons (o := { dst := none, op := Op.store 43 (Operand.tmp 81) (Operand.tmp 80), type := 0, pos := "ref.go:62", after := #[{ on := 12, ground := Ground.data }, { on := 11, ground := Ground.data }, { on := 11, ground := Ground.chain }, { on := 0, ground := Ground.phase }, { on := 1, ground := Ground.phase }, { on := 2, ground := Ground.phase }, { on := 3, ground := Ground.phase }, { on := 4, ground := Ground.phase }, { on := 5, ground := Ground.phase }, { on := 6, ground := Ground.phase }, { on := 7, ground := Ground.phase }, { on := 8, ground := Ground.phase }, { on := 9, ground := Ground.phase }, { on := 10, ground := Ground.phase }, { on := 11, ground := Ground.phase }], guard := none }) rfl (fun K hK => ?_) (AllReadyH.nil)
                  go_simp
                  refine hK.out _ _ (trivial) (fun hHeld => ?_); clear hK K
                  try simp only [Act.put, lsA, lsB, lsC]
                  refine wpAnyH_done (by kernel_rfl) ?_ _; refine NoPanic.normal ?_
                  go_wp2_with fail
                  go_roundw
                  case rel => exact ⟨k3, i + 1, acc ++ [E2], _, by omega, hk312, rfl, by go_num, hacc2, HA2, HM2, HD4⟩
                  case measure => simp [intOf]; omega
                · go_simp
                  refine hK.out _ _ (trivial) (fun hHeld => ?_); clear hK K
                  try simp only [Act.put, lsA, lsB, lsC]
                  refine wpAnyH_ready (rs := [1]) (by kernel_rfl) (by simp) ?_; refine AllReadyH.cons (o := { dst := some 70, op := Op.load 43 (Operand.tmp 69), type := 43, pos := "ref.go:62", after := #[{ on := 0, ground := Ground.data }], guard := none }) rfl (fun K hK => ?_) (AllReadyH.nil)
                  go_simp
                  refine hK.out _ _ (trivial) (fun hHeld => ?_); clear hK K
                  try simp only [Act.put, lsA, lsB, lsC]
                  refine wpAnyH_ready (rs := [11]) (by kernel_rfl) (by simp) ?_; refine AllReadyH.cons (o := { dst := some 80, op := Op.call { callee := Callee.builtin Builtin.append, args := #[Operand.tmp 70, Operand.tmp 79], argTypes := #[43, 43] }, type := 43, pos := "ref.go:62", after := #[{ on := 1, ground := Ground.data }, { on := 10, ground := Ground.data }], guard := none }) rfl (fun K hK => ?_) (AllReadyH.nil); rw [if_pos (by rfl)]; refine Lib.wp_append_run _ (.tmp 70) (.tmp 79) _ _ rfl _ _ rfl rfl _ _ HR4.out ?_; refine hK.out _ _ (trivial) (fun hHeld => ?_); clear hK K
                  try simp only [Act.put, lsA, lsB, lsC]
                  refine tkQ (i := 12) (oi := { dst := some 81, op := Op.fieldAddr 45 (Operand.tmp 4) 5, type := 0, pos := "ref.go:62", after := #[{ on := 0, ground := Ground.phase }, { on := 1, ground := Ground.phase }, { on := 2, ground := Ground.phase }, { on := 3, ground := Ground.phase }, { on := 4, ground := Ground.phase }, { on := 5, ground := Ground.phase }, { on := 6, ground := Ground.phase }, { on := 7, ground := Ground.phase }, { on := 8, ground := Ground.phase }, { on := 9, ground := Ground.phase }, { on := 10, ground := Ground.phase }, { on := 11, ground := Ground.phase }], guard := none }) (v := .pointer (some ⟨bx, 5, none⟩)) rfl (by kernel_rfl) (Or.inl ⟨by rfl, fun w' hSw => by clear hSw; go_simp⟩) (by assumption) ?_; simp only [Act.put, lsA, lsB, lsC]; refine wpAnyH_ready (rs := [13]) (by kernel_rfl) (by simp) ?_; refine AllReadyH.cons (o := { dst := none, op := Op.store 43 (Operand.tmp 81) (Operand.tmp 80), type := 0, pos := "ref.go:62", after := #[{ on := 12, ground := Ground.data }, { on := 11, ground := Ground.data }, { on := 11, ground := Ground.chain }, { on := 0, ground := Ground.phase }, { on := 1, ground := Ground.phase }, { on := 2, ground := Ground.phase }, { on := 3, ground := Ground.phase }, { on := 4, ground := Ground.phase }, { on := 5, ground := Ground.phase }, { on := 6, ground := Ground.phase }, { on := 7, ground := Ground.phase }, { on := 8, ground := Ground.phase }, { on := 9, ground := Ground.phase }, { on := 10, ground := Ground.phase }, { on := 11, ground := Ground.phase }], guard := none }) rfl (fun K hK => ?_) (AllReadyH.nil)
                  go_simp
                  refine hK.out _ _ (trivial) (fun hHeld => ?_); clear hK K
                  try simp only [Act.put, lsA, lsB, lsC]
                  refine wpAnyH_done (by kernel_rfl) ?_ _; refine NoPanic.normal ?_
                  go_wp2_with fail
                  go_roundw
                  case rel => exact ⟨k3, i + 1, acc ++ [E2], _, by omega, hk312, rfl, by go_num, hacc2, HA2, HM2, HD4⟩
                  case measure => simp [intOf]; omega
                -- r17}
          · subst hacc
            have e0 : x18.toNat - acc.length = 0 := by omega
            have HT2 : Hid (T = some (acc, (bl S).drop at_)) := by
              unfold Hid; rw [← HM.out, e0]
              simp [takeI, more]
            have HPR2 : Hid (pre ((bl S).drop 4) = some (⟨a, x12.toNat, x13.toNat, r, H, acc⟩, (bl S).drop at_)) := by
              unfold Hid; rw [HPR.out, HT2.out]
              rfl
            obtain ⟨hfit, hlsn, hdec⟩ := dec_pre HL.out HEQ.out HPR2.out; have HFIT := hide hfit; have HDEC := hide hdec
            have hi1 : ¬ (acc.length : Int) < (x18.toNat : Int) := by omega
            have hal : acc.length ≤ 255 := hfit.2.1; obtain ⟨B, ao, cp, rfl, hS, hF, hB, _⟩ := HDr.out.own.strs (by omega) (fun s hs => by have := HA.out s hs; omega); have HS := hide hS; have HFF := hide hF
            have HB2 : Hid (0 < acc.length → w.heap.size < B) := fun h0 => by have h1 := hB h0; have h2 := HDr.out.lt; omega
            have HB : Hid (0 < acc.length → w.heap.size ≤ B) := fun h0 => by have h1 := hB h0; have h2 := HDr.out.lt; omega
            obtain ⟨p0, p1, p2, p3, p4, p5, g0, g1, g2, g3, g4, g5, gl⟩ := HDr.out.box; clear hfit hdec hS hF hB e0
            go_wp2_with fail
            have he := yencode_any wr a x12.toNat x13.toNat r H B cp ao acc HS.out (by have := HU.out.2; omega) hlsn; obtain ⟨X, hX⟩ : ∃ X, str (Pg.out ⟨a, x12.toNat, x13.toNat, r, H, acc⟩).1 = X := ⟨_, rfl⟩; obtain ⟨c, hc⟩ : ∃ c, (Pg.out ⟨a, x12.toNat, x13.toNat, r, H, acc⟩).2 = c := ⟨_, rfl⟩; rw [hX, hc] at he; refine Calls.mono he ?_; clear he; rintro e w3 ⟨rfl, ho3⟩; have HD3 := hide (HDr.out.more ho3); have HS3 := hide (HS.out.more ho3); clear ho3 p0 p1 p2 p3 p4 p5 g0 g1 g2 g3 g4 g5 gl; obtain ⟨p0, p1, p2, p3, p4, p5, g0, g1, g2, g3, g4, g5, gl⟩ := HD3.out.box; obtain ⟨q0, q1, q2, q3, q4, q5, t0, t1, t2, t3, t4, t5, tl⟩ := HD3.out.res; have HRS := hide HD3.out.res
            by_cases hok : Pg.inRange ⟨a, x12.toNat, x13.toNat, r, H, acc⟩ ∧ Pg.enc ⟨a, x12.toNat, x13.toNat, r, H, acc⟩ = bl S
            · have HD2 := HDEC.out
              rw [if_pos hok] at HD2; have HDD := hide HD2; rw [out_ok hok.1 HFIT.out] at hX hc
              simp only at hX hc
              rw [hok.2, str_bl] at hX; subst hX; subst hc; clear HD2 hok HDEC
              go_wp2_with fail
              refine bodyPost_ret (results_page rfl rfl (Pag.six HRS.out _ _ _ _ _ _)) rfl ?_; rw [HDD.out]; refine ⟨B, ao, cp, rfl, HS3.out.kept (Only.six _ _ _ _ _ _ _ _) (fun h0 e => ?_), HFF.out, HD3.out.only.trans (Only.six _ w.heap.size _ _ _ _ _ _) (fun i hi e => by omega), HB.out⟩; have h1 := HB2.out h0
              omega
            · have HD2 := HDEC.out
              rw [if_neg hok] at HD2; have HDD := hide HD2
              have hne2 : (c != 0) = true ∨ ((c != 0) = false ∧ ¬ X.toList = S.toList) := by
                by_cases hr1 : Pg.inRange ⟨a, x12.toNat, x13.toNat, r, H, acc⟩
                · rw [out_ok hr1 HFIT.out] at hX hc
                  simp only at hX hc
                  refine .inr ⟨by rw [← hc]; rfl, fun e => hok ⟨hr1, ?_⟩⟩; rw [← ba_toList e, ← hX, bl_str]
                · rw [out_range hr1] at hc
                  simp only at hc
                  exact .inl (by rw [← hc]; rfl)
              have HON := hide HD3.out.none; clear HD2 hok HDEC hX hc
              rcases hne2 with hc | ⟨hc, hX⟩
              · go_wp2_with fail
                refine bodyPost_ret (results_page rfl rfl (Pag.six HRS.out _ _ _ _ _ _)) rfl ?_
                exact Res.nil1 31 HDD.out HON.out
              · go_wp2_with fail
                · refine bodyPost_ret (results_page rfl rfl (Pag.six HRS.out _ _ _ _ _ _)) rfl ?_
                  exact Res.nil1 31 HDD.out HON.out
                · have hx : (!X.toList == S.toList) = false := ‹_›
                  exact absurd (by simpa using hx) hX
    · have hne : (q != z) = true := by simp [hqz]
      have HEQ : Hid (dec (bl S) = (.none, 30)) := ydec_sum HL.out (by rw [HQE.out, HZE.out]; exact hqz); clear hqz p0 p1 p2 p3 p4 p5 g0 g1 g2 g3 g4 g5 gl
      go_enter Tryz.func57, Tryz.ntmps57
      go_upto_region 1 with fail
      rw [HW0.out]
      go_wp2_with fail
      go_quiet ((first | (go_at_call 86; exact Calls.quiet_of_same (HOF.out _)) | (go_at_call 87; exact Calls.quiet_of_same (HSU.out _))))
      have HO2 := hide (o2 HO0.out (onlyN W0 nq)); have HP2 := hide (HP.out.more (onlyN W0 nq)); obtain ⟨p0, p1, p2, p3, p4, p5, g0, g1, g2, g3, g4, g5, gl⟩ := HP2.out
      go_wp2_with fail
      refine bodyPost_ret (results_page rfl rfl (Pag.six HP2.out _ _ _ _ _ _)) rfl ?_
      exact Res.nil1 30 HEQ.out (HO2.out.trans (Only.six _ w.heap.size _ _ _ _ _ _) (fun i hi e => by omega))
  · have h5' : ((S.size : Int) != 512) = true := by simp; omega
    have HEQ : Hid (dec (bl S) = (.none, 31)) := ydec_len (by rw [bl_len]; exact h5); clear h5; obtain ⟨p0, p1, p2, p3, p4, p5, g0, g1, g2, g3, g4, g5, gl⟩ := HP.out
    go_enter Tryz.func57, Tryz.ntmps57
    go_upto_region 1 with fail
    rw [HW0.out]
    go_wp2_with fail
    refine bodyPost_ret (results_page rfl rfl (Pag.six HP.out _ _ _ _ _ _)) rfl ?_
    exact Res.nil1 31 HEQ.out (HO0.out.trans (Only.six _ w.heap.size _ _ _ _ _ _) (fun i hi e => by omega))
end Go.Proofs.YtebijheonkagfaaGreatDoor
