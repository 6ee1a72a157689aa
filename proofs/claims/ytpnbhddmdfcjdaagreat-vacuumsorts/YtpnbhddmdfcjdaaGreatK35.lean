/- Parts. -/
import Derived.Test.YtpnbhddmdfcjdaaGreatK26
set_option maxRecDepth 100000
namespace Go.Proofs.YtpnbhddmdfcjdaaGreat
open Go.RowKit
/-- What stands in a slot, as the law is told. -/
structure Sv where
  kind : Int
  t : Tu
  raw : ByteArray
noncomputable def Sv.item (s : Sv) : ByteArray := if s.kind = 0 then ⟨#[]⟩ else if s.kind = 1 then str (dOut s.t.key) else if s.kind = 2 ∧ s.t.ok = true then str s.t.enc else s.raw
def Sv.cl (s : Sv) : List Value := [.int .i64 s.kind, .int .i64 s.t.xmin, .int .i64 s.t.xmax, .bool s.t.frozen, .string s.t.key, .string s.t.value, .string s.raw]
/-- Slots that a slice at ao leads to, in block B. -/
structure Svs (w : World) (B : Nat) (ao : Option Addr) (l : List Sv) : Prop where
  at_ : 0 < l.length → ∃ o, ao = some ⟨B, o, none⟩ ∧ ∀ j (h : j < l.length), w.rangeAt B (o + j * 7) l[j].cl
  lt : 0 < l.length → B < w.heap.size
  each : ∀ z ∈ l, I64 z.kind ∧ I64 z.t.xmin ∧ I64 z.t.xmax ∧ z.raw.size ≤ 140737488355328
  len : l.length ≤ 1759218604441
theorem Svs.kept {w w' : World} {B : Nat} {ao : Option Addr} {l : List Sv} {S : Nat → Prop} (h : Svs w B ao l) (ho : Only S w w') (hS : 0 < l.length → ¬ S B) : Svs w' B ao l :=
  ⟨fun h0 => by
    obtain ⟨o, e, hc⟩ := h.at_ h0
    have hl := h.lt h0
    exact ⟨o, e, fun j hj i v hv => (ho.cell (p := ⟨B, o + j * 7 + i, none⟩) hl (hS h0)).trans (hc j hj i v hv)⟩,
   fun h0 => Nat.lt_of_lt_of_le (h.lt h0) ho.size, h.each, h.len⟩
theorem Svs.more {w w' : World} {B : Nat} {ao : Option Addr} {l : List Sv} (h : Svs w B ao l) (ho : Only (fun _ => False) w w') : Svs w' B ao l := h.kept ho (fun _ h => h)
def ESt : Lyt ByteArray := ⟨1, fun s => [.string s], fun _ => rfl, fun x u hu => by simp at hu; rcases hu with rfl; rfl⟩
theorem Tryz.infoStrI : (Tryz.prog.info? 9).map (fun i => (i.zero, i.size, i.bytes)) = some (some (.string ⟨#[]⟩), 1, 16) := by kernel_rfl
abbrev SRw (w : World) (base : Nat) (v : Value) (L : List ByteArray) : Prop := GRow ESt 9 w base v L
theorem srw_one {w : World} {base : Nat} {v : Value} {L : List ByteArray} (h : SRw w base v L) (x : ByteArray) (hn : L.length + 1 ≤ 4398046511104) (hb : base ≤ w.heap.size) (tr : TypeId) (c : Nat) :
    ∃ v' w', (Builtin.append_ #[28, 28] tr #[v, .slice (some ⟨w.heap.size, 0, none⟩) 1 c]).run Tryz.prog (w.alloc (.cells #[.string x] 9)) = .ok v' w' ∧ SRw w' base v' (L ++ [x]) ∧ Only (fun i => some i = v.ownBlock) w w' ∧ (v'.ownBlock = v.ownBlock ∨ ∃ k, v'.ownBlock = some k ∧ w.heap.size ≤ k) :=
  grow_one Tryz.underlying28 Tryz.infoStrI rfl h x (by omega) (by unfold maxLen; omega) hb tr c
/-- A row that is owned, as texts in memory. -/
theorem GRow.strs {w : World} {base cp : Nat} {ao : Option Addr} {L : List ByteArray} (h : SRw w base (.slice ao L.length cp) L) (hl : L.length ≤ 8796093022207) (hs : ∀ s ∈ L, s.size ≤ 140737488355328) : ∃ B, Strs w B ao L ∧ Fit ao L.length cp ∧ (0 < L.length → base ≤ B) := by
  rcases h.head with ⟨e1, e2, e3⟩ | ⟨g, e, h1, h2, h3, h4, _, h5⟩
  · subst e1 e2 e3
    exact ⟨0, Strs.nil _ _ _, ⟨fun _ => rfl, by simp, by simp⟩, fun q => absurd q (by simp)⟩
  · subst e
    refine ⟨g, ⟨fun _ => ⟨0, rfl, fun j hj => ?_⟩, fun _ => h2, hl, hs⟩, ⟨(fun q => by cases q), h3, h4⟩, fun _ => h1⟩
    have := h5 (j * 1 + 0) (.string L[j]) (by show (L.flatMap ESt.e)[j * ESt.c + 0]? = _; rw [ESt.get hj (by decide)]; rfl)
    rw [Nat.mul_one, Nat.add_zero] at this
    rw [Nat.zero_add]
    exact this
theorem enc_sz {t : Tu} (h : t.ok = true) : (str t.enc).size ≤ 1000 := by
  have h' := Tu.ok_iff.1 h
  rw [← bl_len, bl_str]
  unfold Tu.enc
  simp only [List.length_cons, List.length_append, bigF_len, txL_len t.key (by omega), txL_len t.value (by omega)]
  omega
theorem item_size {s : Sv} (h : s.raw.size ≤ 140737488355328) : s.item.size ≤ 140737488355328 := by
  unfold Sv.item dOut
  split
  · decide
  · split
    · split
      · rename_i hk
        have h' := okK_iff.1 hk
        rw [← bl_len, bl_str]
        unfold dlay
        simp only [List.length_cons, txL_len s.t.key (by omega)]
        omega
      · decide
    · split
      · rename_i hq
        exact Nat.le_trans (enc_sz hq.2) (by decide)
      · exact h
/-- The page that is laid, in block b: its items grow from W1 on. -/
structure PaSt (W1 wr : World) (b : Nat) (v : Value) (L : List ByteArray) : Prop where
  pg : Pag wr b (.int .i64 1) (.int .i64 2) (.int .i64 0) (.int .i64 0) (.string ⟨#[]⟩) v
  row : SRw wr W1.heap.size v L
  only : Only (fun k => k = b ∨ W1.heap.size ≤ k) W1 wr
  lt : b < W1.heap.size
theorem PaSt.more {W1 wr w' : World} {b : Nat} {v : Value} {L : List ByteArray} (h : PaSt W1 wr b v L) (ho : Only (fun _ => False) wr w') : PaSt W1 w' b v L :=
  ⟨h.pg.more ho, h.row.more ho, h.only.trans ho (fun _ _ e => e.elim), h.lt⟩
theorem PaSt.add {W1 wr w' : World} {b : Nat} {v v' : Value} {L M : List ByteArray} (h : PaSt W1 wr b v L) (hr : SRw w' W1.heap.size v' M) (ho : Only (fun i => some i = v.ownBlock) wr w') (_hb : v'.ownBlock = v.ownBlock ∨ ∃ k, v'.ownBlock = some k ∧ wr.heap.size ≤ k) : PaSt W1 (w'.setCell ⟨b, 5, none⟩ v') b v' M := by
  have hl := h.lt
  have hs := Only.setCell (S := fun k => k = b) w' ⟨b, 5, none⟩ v' rfl
  have hk : Pag w' b (.int .i64 1) (.int .i64 2) (.int .i64 0) (.int .i64 0) (.string ⟨#[]⟩) v := h.pg.kept ho (fun e => by have := (h.row.low b e.symm).1; omega)
  have hge : ∀ k, v'.ownBlock = some k → W1.heap.size ≤ k := fun k q => (hr.low k q).1
  refine ⟨?_, hr.kept hs (fun k hk e => by have := hge k hk; omega), (h.only.trans ho (fun i _ e => .inr (h.row.low i e.symm).1)).trans hs (fun i _ e => .inl e), hl⟩
  obtain ⟨p0, p1, p2, p3, p4, p5, f0, f1, f2, f3, f4, f5, fl⟩ := hk
  exact ⟨othU _ _ _ _ _ _ (by omega) p0, othU _ _ _ _ _ _ (by omega) p1, othU _ _ _ _ _ _ (by omega) p2, othU _ _ _ _ _ _ (by omega) p3, othU _ _ _ _ _ _ (by omega) p4, World.cell?_setCell_same _ _ _ p5, by simpa using f0, by simpa using f1, by simpa using f2, by simpa using f3, by simpa using f4, by simpa using f5, by simpa using fl⟩
theorem GRow.frm {α : Type} {E : Lyt α} {ty : TypeId} {w : World} {base : Nat} {v : Value} {L : List α} (h : GRow E ty w base v L) : ∃ ao n cp, v = .slice ao n cp := by
  obtain ⟨ao, cp, e⟩ := h.form
  exact ⟨ao, _, cp, e⟩
theorem pg_two (w : World) : Pag ((w.alloc (.cells #[.int .i64 0, .int .i64 0, .int .i64 0, .int .i64 0, .string ⟨#[]⟩, .slice none 0 0] 30)).alloc (.cells #[.int .i64 1, .int .i64 2, .int .i64 0, .int .i64 0, .string ⟨#[]⟩, .slice none 0 0] 30)) w.heap.size (.int .i64 0) (.int .i64 0) (.int .i64 0) (.int .i64 0) (.string ⟨#[]⟩) (.slice none 0 0) ∧ Pag ((w.alloc (.cells #[.int .i64 0, .int .i64 0, .int .i64 0, .int .i64 0, .string ⟨#[]⟩, .slice none 0 0] 30)).alloc (.cells #[.int .i64 1, .int .i64 2, .int .i64 0, .int .i64 0, .string ⟨#[]⟩, .slice none 0 0] 30)) (w.heap.size + 1) (.int .i64 1) (.int .i64 2) (.int .i64 0) (.int .i64 0) (.string ⟨#[]⟩) (.slice none 0 0) ∧ Only (fun _ => False) w ((w.alloc (.cells #[.int .i64 0, .int .i64 0, .int .i64 0, .int .i64 0, .string ⟨#[]⟩, .slice none 0 0] 30)).alloc (.cells #[.int .i64 1, .int .i64 2, .int .i64 0, .int .i64 0, .string ⟨#[]⟩, .slice none 0 0] 30)) ∧ True := by
  refine ⟨(Pag.new w _ _ _ _ _ _).more (onlyA _ _), ?_, o2 (onlyA _ _) (onlyA _ _), trivial⟩
  have h := Pag.new (w.alloc (.cells #[.int .i64 0, .int .i64 0, .int .i64 0, .int .i64 0, .string ⟨#[]⟩, .slice none 0 0] 30)) (.int .i64 1) (.int .i64 2) (.int .i64 0) (.int .i64 0) (.string ⟨#[]⟩) (.slice none 0 0)
  rw [World.size_alloc] at h
  exact h
set_option maxRecDepth 100000 in
set_option maxHeartbeats 3200000 in
theorem vlpage_any (w : World) (B cp : Nat) (ao : Option Addr) (l : List Sv) (hl : Svs w B ao l) :
    Calls Tryz.prog 6 #[.slice ao l.length cp] w fun e w' => ∃ v, e = .returned (.agg #[.int .i64 1, .int .i64 2, .int .i64 0, .int .i64 0, .string ⟨#[]⟩, v]) ∧ SRw w' w.heap.size v (l.map Sv.item) ∧ Only (fun _ => False) w w' := by
  have HL := hide hl
  have HBD := hide hl.len
  have HN := hide (pg_two w)
  clear hl
  go_enter Tryz.func6, Tryz.ntmps6
  go_upto_region 2 with fail
  obtain ⟨W1, hW1⟩ : ∃ x, (w.alloc (.cells #[.int .i64 0, .int .i64 0, .int .i64 0, .int .i64 0, .string ⟨#[]⟩, .slice none 0 0] 30)).alloc (.cells #[.int .i64 1, .int .i64 2, .int .i64 0, .int .i64 0, .string ⟨#[]⟩, .slice none 0 0] 30) = x := ⟨_, rfl⟩
  rw [hW1] at HN ⊢
  clear hW1
  obtain ⟨b3, hb3⟩ : ∃ b, w.heap.size + 1 = b := ⟨_, rfl⟩
  rw [hb3] at HN ⊢
  obtain ⟨b2, hb2⟩ : ∃ b, w.heap.size = b := ⟨_, rfl⟩
  have HB2 : Hid (b2 = w.heap.size ∧ b3 = w.heap.size + 1) := ⟨hb2.symm, hb3.symm⟩
  rw [hb2] at HN ⊢
  clear hb2 hb3
  have HO1 := hide HN.out.2.2.1
  have HS0 : Hid (PaSt W1 W1 b3 (.slice none 0 0) ((l.take 0).map Sv.item)) := ⟨HN.out.2.1, GRow.nil _ _, Only.refl _ _, HN.out.2.1.lt⟩
  go_wp2_with fail
  go_loopw [4] (fun y wr => ∃ (j : Nat) (v : Value), j ≤ l.length ∧ y = .int .i64 (j : Int) ∧ Hid (PaSt W1 wr b3 v ((l.take j).map Sv.item))) (fun y _ => l.length - (intOf y).toNat)
  case atStart => exact ⟨0, _, by omega, rfl, HS0⟩
  case round =>
    obtain ⟨j, v, hj, rfl, HS⟩ := hrel
    have HOW : Hid (Only (fun _ => False) w wr) := HO1.out.trans HS.out.only (fun i hi e => by have := HO1.out.size; have := HB2.out; omega)
    obtain ⟨av, nv, cv, rfl⟩ := HS.out.row.frm
    obtain ⟨v, hv⟩ : ∃ x, Value.slice av nv cv = x := ⟨_, rfl⟩
    by_cases hlt : j < l.length
    · have hin : (j : Int) < (l.length : Int) := by omega
      have hjb : j < 1759218604441 := by have := HBD.out; omega
      obtain ⟨o, rfl, hc⟩ := (HL.out.more HOW.out).at_ (by omega)
      have hcj := hc j hlt
      have he := HL.out.each l[j] (List.getElem_mem hlt)
      have HTK : Hid ((l.take (j + 1)).map Sv.item = (l.take j).map Sv.item ++ [l[j].item]) := by
        unfold Hid
        rw [List.take_succ_eq_append_getElem hlt, List.map_append]
        rfl
      obtain ⟨s, hs⟩ : ∃ s, l[j] = s := ⟨_, rfl⟩
      rw [hs] at hcj he HTK
      have HLT := hide hlt
      have HE := hide he
      have HLN : Hid (((l.take j).map Sv.item).length = j) := by unfold Hid; rw [List.length_map, List.length_take]; omega
      obtain ⟨k, t, raw⟩ := s
      have c0 := hcj 0 (.int .i64 k) rfl
      have c1 := hcj 1 (.int .i64 t.xmin) rfl
      have c2 := hcj 2 (.int .i64 t.xmax) rfl
      have c3 := hcj 3 (.bool t.frozen) rfl
      have c4 := hcj 4 (.string t.key) rfl
      have c5 := hcj 5 (.string t.value) rfl
      have c6 := hcj 6 (.string raw) rfl
      rw [Nat.add_zero] at c0
      clear hc hcj hs he
      by_cases k0 : k = 0
      · subst k0
        have HIT : Hid (Sv.item ⟨0, t, raw⟩ = ⟨#[]⟩) := by unfold Hid Sv.item; rw [if_pos rfl]
        have HFR := hide (fun W => ufree_any W)
        go_wp2_with fail
        refine (HFR.out _).mono ?_
        rintro e w4 ⟨rfl, hw4⟩
        subst hw4
        rw [hv] at HS
        have HPX : Hid (PaSt W1 w4 b3 v ((l.take j).map Sv.item)) := HS
        obtain ⟨vn, w5, hr5, hg5, ho5, hob5⟩ := srw_one (w := w4) HPX.out.row ⟨#[]⟩ (by rw [HLN.out]; have := HBD.out; omega) HPX.out.only.size 28 1
        obtain ⟨a5, n5, c5, rfl⟩ := hg5.frm
        have HR5 := hide hr5
        have HP5 := hide (HPX.out.add hg5 ho5 hob5)
        have HC5 := hide (HPX.out.pg.kept ho5 (fun e => by have := (HPX.out.row.low b3 e.symm).1; have := HPX.out.lt; omega))
        clear hr5 hg5 ho5 hob5
        obtain ⟨p0, p1, p2, p3, p4, p5, f0, f1, f2, f3, f4, f5, fl⟩ := HPX.out.pg
        obtain ⟨pa0, pa1, pa2, pa3, pa4, pa5, _, _, _, _, _, _, _⟩ := HPX.out.pg.more (onlyA w4 (.cells #[.string ⟨#[]⟩] 9))
        obtain ⟨q0, q1, q2, q3, q4, q5, g0, g1, g2, g3, g4, g5, gl⟩ := HC5.out
        go_wp2_with (at_builtin; go_must (refine Lib.wpList_append_run _ rfl _ _ _ _ rfl _ _ rfl rfl _ _ HR5.out ?_))
        go_roundw
        case rel => exact ⟨j + 1, _, HLT.out, by go_num, by rw [HTK.out, HIT.out]; exact HP5.out⟩
        case measure => have := HLT.out; simp [intOf]; omega
      · by_cases k1 : k = 1
        · subst k1
          have HIT : Hid (Sv.item ⟨1, t, raw⟩ = str (dOut t.key)) := by unfold Hid Sv.item; rw [if_neg (show ¬ (1 : Int) = 0 by decide), if_pos rfl]
          have HDA := hide (fun W => udead_any t.key W)
          obtain ⟨sx, hsx⟩ : ∃ x, str (dOut t.key) = x := ⟨_, rfl⟩
          rw [hsx] at HIT HDA
          clear hsx k0
          go_wp2_with fail
          refine (HDA.out _).mono ?_
          rintro e w4 ⟨rfl, ho4⟩
          rw [hv] at HS
          have HPX : Hid (PaSt W1 w4 b3 v ((l.take j).map Sv.item)) := hide (HS.out.more ho4)
          obtain ⟨vn, w5, hr5, hg5, ho5, hob5⟩ := srw_one (w := w4) HPX.out.row sx (by rw [HLN.out]; have := HBD.out; omega) HPX.out.only.size 28 1
          obtain ⟨a5, n5, c5, rfl⟩ := hg5.frm
          have HR5 := hide hr5
          have HP5 := hide (HPX.out.add hg5 ho5 hob5)
          have HC5 := hide (HPX.out.pg.kept ho5 (fun e => by have := (HPX.out.row.low b3 e.symm).1; have := HPX.out.lt; omega))
          clear hr5 hg5 ho5 hob5
          obtain ⟨p0, p1, p2, p3, p4, p5, f0, f1, f2, f3, f4, f5, fl⟩ := HPX.out.pg
          obtain ⟨pa0, pa1, pa2, pa3, pa4, pa5, _, _, _, _, _, _, _⟩ := HPX.out.pg.more (onlyA w4 (.cells #[.string sx] 9))
          obtain ⟨q0, q1, q2, q3, q4, q5, g0, g1, g2, g3, g4, g5, gl⟩ := HC5.out
          go_wp2_with (at_builtin; go_must (refine Lib.wpList_append_run _ rfl _ _ _ _ rfl _ _ rfl rfl _ _ HR5.out ?_))
          go_roundw
          case rel => exact ⟨j + 1, _, HLT.out, by go_num, by rw [HTK.out, HIT.out]; exact HP5.out⟩
          case measure => have := HLT.out; simp [intOf]; omega
        · have k0b : (k == 0) = false := by simpa using k0
          have k1b : (k == 1) = false := by simpa using k1
          by_cases k2 : k = 2
          · subst k2
            have HEN : Hid (∀ W, Calls Tryz.prog 21 #[.agg #[.int .i64 t.xmin, .int .i64 t.xmax, .bool t.frozen, .string t.key, .string t.value]] W fun e w' => e = .returned (.tuple #[.string (str t.out), .int .i64 t.err]) ∧ Only (fun _ => False) W w') := fun W => uencode_any t W HE.out.2.1 HE.out.2.2.1
            by_cases hok : t.ok = true
            · have HIT : Hid (Sv.item ⟨2, t, raw⟩ = str t.enc) := by unfold Hid Sv.item; rw [if_neg (show ¬ (2 : Int) = 0 by decide), if_neg (show ¬ (2 : Int) = 1 by decide), if_pos ⟨rfl, hok⟩]
              have eo : t.out = t.enc := by unfold Tu.out; rw [if_pos hok]
              have ee : t.err = 0 := by unfold Tu.err; rw [if_pos hok]
              rw [eo, ee] at HEN
              obtain ⟨sx, hsx⟩ : ∃ x, str t.enc = x := ⟨_, rfl⟩
              rw [hsx] at HIT HEN
              clear hsx eo ee hok k0 k1 k0b k1b
              go_wp2_with fail
              refine (HEN.out _).mono ?_
              rintro e w4 ⟨rfl, ho4⟩
              rw [hv] at HS
              have HPX : Hid (PaSt W1 w4 b3 v ((l.take j).map Sv.item)) := hide (HS.out.more ho4)
              obtain ⟨vn, w5, hr5, hg5, ho5, hob5⟩ := srw_one (w := w4) HPX.out.row sx (by rw [HLN.out]; have := HBD.out; omega) HPX.out.only.size 28 1
              obtain ⟨a5, n5, c5, rfl⟩ := hg5.frm
              have HR5 := hide hr5
              have HP5 := hide (HPX.out.add hg5 ho5 hob5)
              have HC5 := hide (HPX.out.pg.kept ho5 (fun e => by have := (HPX.out.row.low b3 e.symm).1; have := HPX.out.lt; omega))
              clear hr5 hg5 ho5 hob5
              obtain ⟨p0, p1, p2, p3, p4, p5, f0, f1, f2, f3, f4, f5, fl⟩ := HPX.out.pg
              obtain ⟨pa0, pa1, pa2, pa3, pa4, pa5, _, _, _, _, _, _, _⟩ := HPX.out.pg.more (onlyA w4 (.cells #[.string sx] 9))
              obtain ⟨q0, q1, q2, q3, q4, q5, g0, g1, g2, g3, g4, g5, gl⟩ := HC5.out
              go_wp2_with (at_builtin; go_must (refine Lib.wpList_append_run _ rfl _ _ _ _ rfl _ _ rfl rfl _ _ HR5.out ?_))
              go_roundw
              case rel => exact ⟨j + 1, _, HLT.out, by go_num, by rw [HTK.out, HIT.out]; exact HP5.out⟩
              case measure => have := HLT.out; simp [intOf]; omega
            · have HIT : Hid (Sv.item ⟨2, t, raw⟩ = raw) := by unfold Hid Sv.item; rw [if_neg (show ¬ (2 : Int) = 0 by decide), if_neg (show ¬ (2 : Int) = 1 by decide), if_neg (fun q => hok q.2)]
              have ee : t.err = 110 := by unfold Tu.err; rw [if_neg hok]
              rw [ee] at HEN
              clear ee hok k0 k1 k0b k1b
              go_wp2_with fail
              refine (HEN.out _).mono ?_
              rintro e w4 ⟨rfl, ho4⟩
              rw [hv] at HS
              have HPX : Hid (PaSt W1 w4 b3 v ((l.take j).map Sv.item)) := hide (HS.out.more ho4)
              obtain ⟨vn, w5, hr5, hg5, ho5, hob5⟩ := srw_one (w := w4) HPX.out.row raw (by rw [HLN.out]; have := HBD.out; omega) HPX.out.only.size 28 1
              obtain ⟨a5, n5, c5, rfl⟩ := hg5.frm
              have HR5 := hide hr5
              have HP5 := hide (HPX.out.add hg5 ho5 hob5)
              have HC5 := hide (HPX.out.pg.kept ho5 (fun e => by have := (HPX.out.row.low b3 e.symm).1; have := HPX.out.lt; omega))
              clear hr5 hg5 ho5 hob5
              obtain ⟨p0, p1, p2, p3, p4, p5, f0, f1, f2, f3, f4, f5, fl⟩ := HPX.out.pg
              obtain ⟨pa0, pa1, pa2, pa3, pa4, pa5, _, _, _, _, _, _, _⟩ := HPX.out.pg.more (onlyA w4 (.cells #[.string raw] 9))
              obtain ⟨q0, q1, q2, q3, q4, q5, g0, g1, g2, g3, g4, g5, gl⟩ := HC5.out
              go_wp2_with (at_builtin; go_must (refine Lib.wpList_append_run _ rfl _ _ _ _ rfl _ _ rfl rfl _ _ HR5.out ?_))
              go_roundw
              case rel => exact ⟨j + 1, _, HLT.out, by go_num, by rw [HTK.out, HIT.out]; exact HP5.out⟩
              case measure => have := HLT.out; simp [intOf]; omega
          · have k2b : (k == 2) = false := by simpa using k2
            have HIT : Hid (Sv.item ⟨k, t, raw⟩ = raw) := by unfold Hid Sv.item; simp only []; rw [if_neg k0, if_neg k1, if_neg (fun q => k2 q.1)]
            clear k0 k1 k2
            rw [hv] at HS
            have HPX : Hid (PaSt W1 wr b3 v ((l.take j).map Sv.item)) := HS
            obtain ⟨vn, w5, hr5, hg5, ho5, hob5⟩ := srw_one (w := wr) HPX.out.row raw (by rw [HLN.out]; have := HBD.out; omega) HPX.out.only.size 28 1
            obtain ⟨a5, n5, c5, rfl⟩ := hg5.frm
            have HR5 := hide hr5
            have HP5 := hide (HPX.out.add hg5 ho5 hob5)
            have HC5 := hide (HPX.out.pg.kept ho5 (fun e => by have := (HPX.out.row.low b3 e.symm).1; have := HPX.out.lt; omega))
            clear hr5 hg5 ho5 hob5
            obtain ⟨p0, p1, p2, p3, p4, p5, f0, f1, f2, f3, f4, f5, fl⟩ := HPX.out.pg
            obtain ⟨pa0, pa1, pa2, pa3, pa4, pa5, _, _, _, _, _, _, _⟩ := HPX.out.pg.more (onlyA wr (.cells #[.string raw] 9))
            obtain ⟨q0, q1, q2, q3, q4, q5, g0, g1, g2, g3, g4, g5, gl⟩ := HC5.out
            go_wp2_with (at_builtin; go_must (refine Lib.wpList_append_run _ rfl _ _ _ _ rfl _ _ rfl rfl _ _ HR5.out ?_))
            go_roundw
            case rel => exact ⟨j + 1, _, HLT.out, by go_num, by rw [HTK.out, HIT.out]; exact HP5.out⟩
            case measure => have := HLT.out; simp [intOf]; omega
    · subst hv
      have hin : ¬ (j : Int) < (l.length : Int) := by omega
      obtain rfl : j = l.length := by omega
      have HQ := hide (HN.out.1.kept HS.out.only (fun e => by have e2 : b2 = b3 ∨ W1.heap.size ≤ b2 := e; have := HB2.out; have := HN.out.1.lt; omega))
      have HRW : Hid (SRw wr W1.heap.size (.slice av nv cv) (l.map Sv.item)) := by have := HS.out.row; rwa [List.take_length] at this
      have HSO := hide HS.out.only
      obtain ⟨p0, p1, p2, p3, p4, p5, _, _, _, _, _, _, _⟩ := HS.out.pg
      obtain ⟨q0, q1, q2, q3, q4, q5, f0, f1, f2, f3, f4, f5, fl⟩ := HQ.out
      go_wp2_with fail
      refine bodyPost_ret (results_cellI rfl rfl (load_page (Pag.six HQ.out _ _ _ _ _ _))) rfl ?_
      have hb2 := HB2.out
      exact ⟨_, rfl, (HRW.out.kept (Only.six wr b2 _ _ _ _ _ _) (fun k hk e => by have := (HRW.out.low k hk).1; have := HN.out.1.lt; omega)).base (by have := HO1.out.size; omega), HOW.out.trans (Only.six wr b2 _ _ _ _ _ _) (fun i hi e => by omega)⟩
end Go.Proofs.YtpnbhddmdfcjdaaGreat
