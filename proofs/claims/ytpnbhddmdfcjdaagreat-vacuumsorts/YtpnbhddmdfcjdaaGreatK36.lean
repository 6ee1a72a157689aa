/- Parts. -/
import Derived.Test.YtpnbhddmdfcjdaaGreatK31
import Derived.Test.YtpnbhddmdfcjdaaGreatK34
import Derived.Test.YtpnbhddmdfcjdaaGreatK35
set_option maxRecDepth 100000

namespace Go.Proofs.YtpnbhddmdfcjdaaGreat
open Go.RowKit
theorem id16 {x : Int} (h1 : 1 ≤ x) (h2 : x ≤ 16) : Idd 16 x := ⟨⟨by omega, by omega, by decide⟩, h1, h2⟩
def sX : Nat → Int := fun j => (j : Int) + 1
def sS : Nat → Nat := fun j => if j = 1 then 3 else 2
def sP (b : UInt8) : Pg := ⟨0, 1, 0, 0, ⟨#[]⟩, [⟨#[1]⟩, ⟨#[b, 0, 0, 0]⟩]⟩
theorem setC_ok {m x : Int} {p : Pg} {s : Nat} (hp : OkP m p) (hx : Idd m x) (hs : s ≤ 3) : setC m p x s = 0 := by
  unfold setC
  rw [if_pos (cid_ok hx hp), if_pos hs]
theorem sP0 : blankP 16 1 = sP 0 := rfl
theorem sok0 : OkP 16 (sP 0) := by have := OkP.blank (id16 (x := 1) (by omega) (by omega)); rw [sP0] at this; exact this
theorem sP1 : setP (sP 0) 1 2 = sP 2 := rfl
theorem sP2 : setP (sP 2) 2 3 = sP 14 := rfl
theorem sP3 : setP (sP 14) 3 2 = sP 46 := rfl
theorem sok1 : OkP 16 (sP 2) := by have := sok0.set (id16 (x := 1) (by omega) (by omega)) (show 2 < 4 by omega); rw [sP1] at this; exact this
theorem sok2 : OkP 16 (sP 14) := by have := sok1.set (id16 (x := 2) (by omega) (by omega)) (show 3 < 4 by omega); rw [sP2] at this; exact this
theorem sok3 : OkP 16 (sP 46) := by have := sok2.set (id16 (x := 3) (by omega) (by omega)) (show 2 < 4 by omega); rw [sP3] at this; exact this
theorem say_step {m f : Int} {X : Nat → Int} {S : Nat → Nat} {k : Nat} {p q : Pg} {x : Int} {s : Nat} (h : sayP m f X S k = p) (hx : X k = x) (hs : S k = s) (hp : OkP m p) (hi : Idd m x) (h3 : s ≤ 3) (hq : setP p x s = q) : sayP m f X S (k + 1) = q := by
  rw [sayP, h, hx, hs, if_pos (setC_ok hp hi h3)]
  unfold setR
  rw [if_pos (setC_ok hp hi h3), hq]
theorem say3 : sayP 16 1 sX sS 3 = sP 46 :=
  say_step (say_step (say_step sP0 rfl rfl sok0 (id16 (x := 1) (by omega) (by omega)) (by decide) sP1) rfl rfl sok1 (id16 (x := 2) (by omega) (by omega)) (by decide) sP2) rfl rfl sok2 (id16 (x := 3) (by omega) (by omega)) (by decide) sP3
def sV : Vw := ⟨16, 4, [3], 0, [4], sP 46⟩
theorem sg (x : Int) (h1 : 1 ≤ x) (h2 : x ≤ 16) : gst 16 (sP 46) x = stAt (bl ⟨#[46, 0, 0, 0]⟩) (x - 1).toNat := by
  unfold gst
  rw [if_pos (cid_ok (id16 h1 h2) sok3)]
  rfl
theorem sv1 : vsi sV 1 = 2 := by unfold vsi; rw [if_neg (by simp [sV])]; show ((gst 16 (sP 46) 1 : Nat) : Int) = 2; rw [sg 1 (by omega) (by omega)]; rfl
theorem sv2 : vsi sV 2 = 3 := by unfold vsi; rw [if_neg (by simp [sV])]; show ((gst 16 (sP 46) 2 : Nat) : Int) = 3; rw [sg 2 (by omega) (by omega)]; rfl
theorem xb16 (a b : Int) (h1 : 1 ≤ a) (h2 : a ≤ 16) (h3 : 1 ≤ b) (h4 : b ≤ 16) : xbef 16 a b = decide (1 ≤ (if a ≤ b then b - a else b - a + 16) ∧ (if a ≤ b then b - a else b - a + 16) ≤ 7) := by
  unfold xbef
  rw [ring_gap (id16 h1 h2) (id16 h3 h4)]
  rfl
theorem i64 {n : Int} (h : 0 ≤ n) (k : n ≤ 1024) : I64 n := ⟨by omega, by omega⟩
theorem Sds.lit (w : World) : Sds (w.alloc (.cells #[.int .i64 1, .int .u8 2, .int .i64 2, .int .u8 3, .int .i64 3, .int .u8 2] 60)) w.heap.size (some ⟨w.heap.size, 0, none⟩) 3 sX sS :=
  ⟨fun _ => ⟨0, rfl, fun j hj => by
    match j, hj with
    | 0, _ => exact ⟨by simp [sX], by simp [sS]⟩
    | 1, _ => exact ⟨by simp [sX], by simp [sS]⟩
    | 2, _ => exact ⟨by simp [sX], by simp [sS]⟩⟩, fun j hj => by
    match j, hj with
    | 0, _ => exact ⟨i64 (by simp [sX]) (by simp [sX]), by simp [sS]⟩
    | 1, _ => exact ⟨i64 (by simp [sX]) (by simp [sX]), by simp [sS]⟩
    | 2, _ => exact ⟨i64 (by simp [sX]) (by simp [sX]), by simp [sS]⟩, fun _ => by simp, by omega⟩
def tA1 : Tu := ⟨1, 0, false, ⟨#[97]⟩, ⟨#[]⟩⟩
def tA2 : Tu := ⟨2, 0, false, ⟨#[98]⟩, ⟨#[]⟩⟩
def tA3 : Tu := ⟨1, 2, false, ⟨#[99]⟩, ⟨#[]⟩⟩
def tAk : Tu := ⟨0, 0, false, ⟨#[107]⟩, ⟨#[]⟩⟩
def lA : List Sv := [⟨2, tA1, ⟨#[]⟩⟩, ⟨2, tA2, ⟨#[]⟩⟩, ⟨0, noT, ⟨#[]⟩⟩, ⟨1, tAk, ⟨#[]⟩⟩, ⟨2, tA3, ⟨#[]⟩⟩]
def kA : Wk := ⟨[0, 4], [4], [⟨⟨#[98]⟩, 7, 1⟩, ⟨⟨#[107]⟩, 7, 3⟩]⟩
theorem item_lv {t : Tu} (h : t.ok = true) (r : ByteArray) : Sv.item ⟨2, t, r⟩ = str t.enc := by
  unfold Sv.item
  rw [if_neg (show ¬ (2 : Int) = 0 by decide), if_neg (show ¬ (2 : Int) = 1 by decide), if_pos ⟨rfl, h⟩]
theorem item_dd {t : Tu} (h : okK t.key = true) (r : ByteArray) : Sv.item ⟨1, t, r⟩ = str (dlay t.key) := by
  unfold Sv.item dOut
  rw [if_neg (show ¬ (1 : Int) = 0 by decide), if_pos rfl, if_pos h]
theorem dec_lv {t : Tu} (h : t.ok = true) : decT (bl (str t.enc)) = some t := by rw [bl_str]; exact dec_encT h
theorem xb14 : xbef 16 1 4 = true := by rw [xb16 1 4 (by omega) (by omega) (by omega) (by omega)]; decide
theorem a1_gn : gnS sV 4 (str tA1.enc) = false := by
  unfold gnS
  rw [stT_lv (dec_lv (t := tA1) (by decide)), dec_lv (t := tA1) (by decide)]
  show (false || vgone sV ⟨1, 0, false, ⟨#[97]⟩, ⟨#[]⟩⟩ 4) = false
  unfold vgone vnever vabo
  simp only [sv1]
  decide
theorem a1_fz : fzS sV 4 (str tA1.enc) = true := by
  unfold fzS
  rw [dec_lv (t := tA1) (by decide)]
  show vold sV ⟨1, 0, false, ⟨#[97]⟩, ⟨#[]⟩⟩ 4 = true
  unfold vold vpast vcom
  simp only [sv1]
  rw [show sV.m = 16 from rfl, xb14]
  decide
theorem a1_of : ofS sV (str tA1.enc) = false := by
  unfold ofS
  rw [dec_lv (t := tA1) (by decide)]
  rfl
theorem a2_gn : gnS sV 4 (str tA2.enc) = true := by
  refine gnS_lv (dec_lv (t := tA2) (by decide)) ?_
  show vgone sV ⟨2, 0, false, ⟨#[98]⟩, ⟨#[]⟩⟩ 4 = true
  unfold vgone vnever vabo
  simp only [sv2]
  decide
theorem a3_gn : gnS sV 4 (str tA3.enc) = false := by
  unfold gnS
  rw [stT_lv (dec_lv (t := tA3) (by decide)), dec_lv (t := tA3) (by decide)]
  show (false || vgone sV ⟨1, 2, false, ⟨#[99]⟩, ⟨#[]⟩⟩ 4) = false
  unfold vgone vnever vabo vpast vcom
  simp only [sv1, sv2]
  simp
theorem a3_fz : fzS sV 4 (str tA3.enc) = true := by
  unfold fzS
  rw [dec_lv (t := tA3) (by decide)]
  show vold sV ⟨1, 2, false, ⟨#[99]⟩, ⟨#[]⟩⟩ 4 = true
  unfold vold vpast vcom
  simp only [sv1]
  rw [show sV.m = 16 from rfl, xb14]
  decide
theorem a3_of : ofS sV (str tA3.enc) = true := by
  unfold ofS
  rw [dec_lv (t := tA3) (by decide)]
  show voff sV ⟨1, 2, false, ⟨#[99]⟩, ⟨#[]⟩⟩ = true
  unfold voff vabo
  simp only [sv2]
  decide
theorem a0_no : decT (bl ⟨#[]⟩) = none ∧ (stT (bl ⟨#[]⟩) == 2) = false := ⟨by decide, by decide⟩
theorem ad_dead : deadK (bl (str (dlay ⟨#[107]⟩))) = some ⟨#[107]⟩ := by rw [bl_str]; exact dead_lay (by decide)
theorem ad_st : (stT (bl (str (dlay ⟨#[107]⟩))) == 2) = true := by
  unfold stT
  rw [dead_dec ad_dead, ad_dead]
  rfl
theorem ad_key : keyB (str (dlay ⟨#[107]⟩)) = ⟨#[107]⟩ := by
  unfold keyB keyT
  rw [dead_dec ad_dead, ad_dead]
  rfl
theorem a2_key : keyB (str tA2.enc) = ⟨#[98]⟩ := by
  unfold keyB keyT
  rw [dec_lv (t := tA2) (by decide)]
  rfl
theorem items_A : lA.map Sv.item = [str tA1.enc, str tA2.enc, ⟨#[]⟩, str (dlay ⟨#[107]⟩), str tA3.enc] := by
  show [Sv.item ⟨2, tA1, ⟨#[]⟩⟩, Sv.item ⟨2, tA2, ⟨#[]⟩⟩, Sv.item ⟨0, noT, ⟨#[]⟩⟩, Sv.item ⟨1, tAk, ⟨#[]⟩⟩, Sv.item ⟨2, tA3, ⟨#[]⟩⟩] = _
  rw [item_lv (t := tA1) (by decide), item_lv (t := tA2) (by decide), item_dd (t := tAk) (by decide), item_lv (t := tA3) (by decide)]
  rfl
theorem wk_A (l : List ByteArray) (hl : l = [str tA1.enc, str tA2.enc, ⟨#[]⟩, str (dlay ⟨#[107]⟩), str tA3.enc]) : wkN sV 4 7 l l.length = kA := by
  have s0 : wkN sV 4 7 l 0 = ⟨[], [], []⟩ := rfl
  have s1 : wkN sV 4 7 l 1 = ⟨[0], [], []⟩ := by
    rw [wkN_step (by rw [hl]; decide), s0]
    have e : l[0]'(by rw [hl]; decide) = str tA1.enc := by subst hl; rfl
    rw [e]
    unfold Wk.step
    rw [if_neg (by rw [a1_gn]; decide), a1_fz, a1_of]
    rfl
  have s2 : wkN sV 4 7 l 2 = ⟨[0], [], [⟨⟨#[98]⟩, 7, 1⟩]⟩ := by
    rw [wkN_step (by rw [hl]; decide), s1]
    have e : l[1]'(by rw [hl]; decide) = str tA2.enc := by subst hl; rfl
    rw [e, Wk.step_gn a2_gn, a2_key]
    rfl
  have s3 : wkN sV 4 7 l 3 = ⟨[0], [], [⟨⟨#[98]⟩, 7, 1⟩]⟩ := by
    rw [wkN_step (by rw [hl]; decide), s2]
    have e : l[2]'(by rw [hl]; decide) = ⟨#[]⟩ := by subst hl; rfl
    rw [e, Wk.step_no a0_no.1 a0_no.2]
  have s4 : wkN sV 4 7 l 4 = ⟨[0], [], [⟨⟨#[98]⟩, 7, 1⟩, ⟨⟨#[107]⟩, 7, 3⟩]⟩ := by
    rw [wkN_step (by rw [hl]; decide), s3]
    have e : l[3]'(by rw [hl]; decide) = str (dlay ⟨#[107]⟩) := by subst hl; rfl
    rw [e, Wk.step_gn (gnS_dead ad_st), ad_key]
    rfl
  have e5 : l.length = 5 := by rw [hl]; rfl
  rw [e5, wkN_step (by rw [hl]; decide), s4]
  have e : l[4]'(by rw [hl]; decide) = str tA3.enc := by subst hl; rfl
  rw [e]
  unfold Wk.step
  rw [if_neg (by rw [a3_gn]; decide), a3_fz, a3_of]
  rfl
/-- A row of its own, laid out at once. -/
theorem GRow.lit {α : Type} {E : Lyt α} {ty : TypeId} (w : World) (base : Nat) (L : List α) (hL : L.length ≤ maxLen) (hb : base ≤ w.heap.size) : GRow E ty (w.alloc (.cells (L.flatMap E.e).toArray ty)) base (.slice (some ⟨w.heap.size, 0, none⟩) L.length L.length) L := by
  refine ⟨E.length L, .inr ⟨w.heap.size, L.length, (L.flatMap E.e).toArray, rfl, hb, heap_alloc_new w _, Nat.le_refl _, hL, ?_, ?_⟩⟩
  · rw [List.size_toArray, E.length]
  · show ((L.flatMap E.e).toArray.toList).take (L.length * E.c) = _
    rw [← E.length L]
    exact List.take_length
def ESl : Lyt Sv := ⟨7, Sv.cl, fun _ => rfl, fun x u hu => by simp [Sv.cl] at hu; rcases hu with rfl | rfl | rfl | rfl | rfl | rfl | rfl <;> rfl⟩
theorem Svs.lit (w : World) : Svs (w.alloc (.cells (lA.flatMap Sv.cl).toArray 64)) w.heap.size (some ⟨w.heap.size, 0, none⟩) lA := by
  refine ⟨fun _ => ⟨0, rfl, fun j hj i v hv => ?_⟩, fun _ => by simp, fun z hz => ?_, by decide⟩
  · have hi : i < 7 := (List.getElem?_eq_some_iff.1 hv).1
    have key : (lA.flatMap Sv.cl)[0 + j * 7 + i]? = some v := by rw [Nat.zero_add]; exact (ESl.get hj hi).trans hv
    simp only [World.cell?, World.alloc]
    simpa using key
  · simp only [lA, List.mem_cons, List.not_mem_nil, or_false] at hz
    rcases hz with rfl | rfl | rfl | rfl | rfl <;> exact ⟨⟨by decide, by decide⟩, ⟨by decide, by decide⟩, ⟨by decide, by decide⟩, by decide⟩
end Go.Proofs.YtpnbhddmdfcjdaaGreat
