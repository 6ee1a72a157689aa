/- Parts. -/
import Derived.Test.YtpnbhddmdfcjdaaGreatK08
import Derived.Deep.RegionHeld3
import Derived.Deep.Draws
import Derived.Test.YtpnbhddmdfcjdaaGreatK10
set_option maxRecDepth 100000
namespace Go.Proofs.YtpnbhddmdfcjdaaGreat
open Go.RowKit
/-- A version in block b. -/
structure Tb (w : World) (b : Nat) (t : Tu) : Prop where
  c0 : w.cell? ⟨b, 0, none⟩ = some (.int .i64 t.xmin)
  c1 : w.cell? ⟨b, 1, none⟩ = some (.int .i64 t.xmax)
  c2 : w.cell? ⟨b, 2, none⟩ = some (.bool t.frozen)
  c3 : w.cell? ⟨b, 3, none⟩ = some (.string t.key)
  c4 : w.cell? ⟨b, 4, none⟩ = some (.string t.value)
  f0 : w.frozen? ⟨b, 0, none⟩ = false
  f1 : w.frozen? ⟨b, 1, none⟩ = false
  f2 : w.frozen? ⟨b, 2, none⟩ = false
  f3 : w.frozen? ⟨b, 3, none⟩ = false
  f4 : w.frozen? ⟨b, 4, none⟩ = false
  lt : b < w.heap.size
theorem Tb.kept {S : Nat → Prop} {w w' : World} {b : Nat} {t : Tu} (h : Tb w b t) (ho : Only S w w') (hS : ¬ S b) : Tb w' b t :=
  ⟨(ho.cell (p := ⟨b, 0, none⟩) h.lt hS).trans h.c0, (ho.cell (p := ⟨b, 1, none⟩) h.lt hS).trans h.c1, (ho.cell (p := ⟨b, 2, none⟩) h.lt hS).trans h.c2, (ho.cell (p := ⟨b, 3, none⟩) h.lt hS).trans h.c3, (ho.cell (p := ⟨b, 4, none⟩) h.lt hS).trans h.c4,
   (ho.frozen (p := ⟨b, 0, none⟩) h.lt hS).trans h.f0, (ho.frozen (p := ⟨b, 1, none⟩) h.lt hS).trans h.f1, (ho.frozen (p := ⟨b, 2, none⟩) h.lt hS).trans h.f2, (ho.frozen (p := ⟨b, 3, none⟩) h.lt hS).trans h.f3, (ho.frozen (p := ⟨b, 4, none⟩) h.lt hS).trans h.f4, Nat.lt_of_lt_of_le h.lt ho.size⟩
theorem Tb.more {w w' : World} {b : Nat} {t : Tu} (h : Tb w b t) (ho : Only (fun _ => False) w w') : Tb w' b t := h.kept ho (fun h => h)
theorem Tb.new (w : World) (t : Tu) : Tb (w.alloc (.cells #[.int .i64 t.xmin, .int .i64 t.xmax, .bool t.frozen, .string t.key, .string t.value] 62)) w.heap.size t :=
  ⟨by simp, by simp, by simp, by simp, by simp, by simp, by simp, by simp, by simp, by simp, by simp⟩
theorem othU (W : World) (b i j : Nat) (v x : Value) (hij : i ≠ j) (hx : W.cell? ⟨b, j, none⟩ = some x) : (W.setCell ⟨b, i, none⟩ v).cell? ⟨b, j, none⟩ = some x :=
  (World.cell?_setCell_other _ _ _ _ (by intro e; injection e; omega)).trans hx
theorem Tb.s0 {w : World} {b : Nat} {t : Tu} (h : Tb w b t) (x : Int) : Tb (w.setCell ⟨b, 0, none⟩ (.int .i64 x)) b ⟨x, t.xmax, t.frozen, t.key, t.value⟩ :=
  ⟨World.cell?_setCell_same _ _ _ h.c0, othU _ _ _ _ _ _ (by omega) h.c1, othU _ _ _ _ _ _ (by omega) h.c2, othU _ _ _ _ _ _ (by omega) h.c3, othU _ _ _ _ _ _ (by omega) h.c4, by simpa using h.f0, by simpa using h.f1, by simpa using h.f2, by simpa using h.f3, by simpa using h.f4, by simpa using h.lt⟩
theorem Tb.s1 {w : World} {b : Nat} {t : Tu} (h : Tb w b t) (x : Int) : Tb (w.setCell ⟨b, 1, none⟩ (.int .i64 x)) b ⟨t.xmin, x, t.frozen, t.key, t.value⟩ :=
  ⟨othU _ _ _ _ _ _ (by omega) h.c0, World.cell?_setCell_same _ _ _ h.c1, othU _ _ _ _ _ _ (by omega) h.c2, othU _ _ _ _ _ _ (by omega) h.c3, othU _ _ _ _ _ _ (by omega) h.c4, by simpa using h.f0, by simpa using h.f1, by simpa using h.f2, by simpa using h.f3, by simpa using h.f4, by simpa using h.lt⟩
theorem Tb.s2 {w : World} {b : Nat} {t : Tu} (h : Tb w b t) (x : Bool) : Tb (w.setCell ⟨b, 2, none⟩ (.bool x)) b ⟨t.xmin, t.xmax, x, t.key, t.value⟩ :=
  ⟨othU _ _ _ _ _ _ (by omega) h.c0, othU _ _ _ _ _ _ (by omega) h.c1, World.cell?_setCell_same _ _ _ h.c2, othU _ _ _ _ _ _ (by omega) h.c3, othU _ _ _ _ _ _ (by omega) h.c4, by simpa using h.f0, by simpa using h.f1, by simpa using h.f2, by simpa using h.f3, by simpa using h.f4, by simpa using h.lt⟩
theorem Tb.s3 {w : World} {b : Nat} {t : Tu} (h : Tb w b t) (x : ByteArray) : Tb (w.setCell ⟨b, 3, none⟩ (.string x)) b ⟨t.xmin, t.xmax, t.frozen, x, t.value⟩ :=
  ⟨othU _ _ _ _ _ _ (by omega) h.c0, othU _ _ _ _ _ _ (by omega) h.c1, othU _ _ _ _ _ _ (by omega) h.c2, World.cell?_setCell_same _ _ _ h.c3, othU _ _ _ _ _ _ (by omega) h.c4, by simpa using h.f0, by simpa using h.f1, by simpa using h.f2, by simpa using h.f3, by simpa using h.f4, by simpa using h.lt⟩
theorem Tb.s4 {w : World} {b : Nat} {t : Tu} (h : Tb w b t) (x : ByteArray) : Tb (w.setCell ⟨b, 4, none⟩ (.string x)) b ⟨t.xmin, t.xmax, t.frozen, t.key, x⟩ :=
  ⟨othU _ _ _ _ _ _ (by omega) h.c0, othU _ _ _ _ _ _ (by omega) h.c1, othU _ _ _ _ _ _ (by omega) h.c2, othU _ _ _ _ _ _ (by omega) h.c3, World.cell?_setCell_same _ _ _ h.c4, by simpa using h.f0, by simpa using h.f1, by simpa using h.f2, by simpa using h.f3, by simpa using h.f4, by simpa using h.lt⟩
theorem Tb.all {w : World} {b : Nat} {u : Tu} (h : Tb w b u) (t : Tu) : Tb (((((w.setCell ⟨b, 0, none⟩ (.int .i64 t.xmin)).setCell ⟨b, 1, none⟩ (.int .i64 t.xmax)).setCell ⟨b, 2, none⟩ (.bool t.frozen)).setCell ⟨b, 3, none⟩ (.string t.key)).setCell ⟨b, 4, none⟩ (.string t.value)) b t :=
  ((((h.s0 t.xmin).s1 t.xmax).s2 t.frozen).s3 t.key).s4 t.value
theorem Only.fiveU (w : World) (b : Nat) (v0 v1 v2 v3 v4 : Value) : Only (fun k => k = b) w (((((w.setCell ⟨b, 0, none⟩ v0).setCell ⟨b, 1, none⟩ v1).setCell ⟨b, 2, none⟩ v2).setCell ⟨b, 3, none⟩ v3).setCell ⟨b, 4, none⟩ v4) := by
  have st : ∀ (W : World) (i : Nat) (v : Value), Only (fun k => k = b) W (W.setCell ⟨b, i, none⟩ v) := fun W i v => Only.setCell W ⟨b, i, none⟩ v rfl
  exact ((((st _ 0 _).trans (st _ 1 _) (fun _ _ h => h)).trans (st _ 2 _) (fun _ _ h => h)).trans (st _ 3 _) (fun _ _ h => h)).trans (st _ 4 _) (fun _ _ h => h)
theorem load_tub {w : World} {b : Nat} {t : Tu} (h : Tb w b t) : (loadVar 62 ⟨b, 0, none⟩).run Tryz.prog w = .ok t.agg w := by
  have c0 := h.c0
  have c1 := h.c1
  have c2 := h.c2
  have c3 := h.c3
  have c4 := h.c4
  simp [loadVar, go_sem, c0, c1, c2, c3, c4, Tu.agg]
theorem results_tub {fn : Func} {p u : Tmp} (h : fn.results = #[.cell p 62, .tmp u]) {tmps : Array Value} {w : World} {b : Nat} {t : Tu} (hp : tmps.getD p undef = .pointer (some ⟨b, 0, none⟩)) (hP : Tb w b t) :
    (results fn tmps).run Tryz.prog w = .ok (.tuple #[t.agg, tmps.getD u undef]) w := by
  have e : (asAddr (.pointer (some ⟨b, 0, none⟩))).run Tryz.prog w = .ok ⟨b, 0, none⟩ w := rfl
  rw [results_cell_tmp h, hp, e]
  simp only [Result.andThen, load_tub hP]
theorem yieldsIf_load_tub {ops : Array Oper} {S : World → Prop} {op : Oper} {a : Act} {t : Tu} (hw : Region.wanted op (yielded ops a.tmps) = true) (x : Operand) (ho : op.op = .load 62 x)
    {b : Nat} (hx : a.eval x = .pointer (some ⟨b, 0, none⟩)) (hS : ∀ w, S w → Tb w b t) : YieldsIf Tryz.prog ops S op t.agg a :=
  .inl ⟨hw, fun w hw' => by
    unfold execOp
    simp only [ho, hx, Instr.loadAt, Instr.sureAddr, Sem.run_bind, Sem.run_pure, Result.andThen_ok, load_tub (hS w hw')]⟩
theorem yieldsIf_load_cell {ops : Array Oper} {S : World → Prop} {op : Oper} {a : Act} {v : Value} (hw : Region.wanted op (yielded ops a.tmps) = true) (ty : TypeId) (x : Operand) (ho : op.op = .load ty x)
    (p : Addr) (hx : a.eval x = .pointer (some p)) (hS : ∀ w, S w → w.cell? p = some v) (hl : ∀ w, w.cell? p = some v → (loadVar ty p).run Tryz.prog w = .ok v w) : YieldsIf Tryz.prog ops S op v a :=
  .inl ⟨hw, fun w hw' => by
    unfold execOp
    simp only [ho, hx, Instr.loadAt, Instr.sureAddr, Sem.run_bind, Sem.run_pure, Result.andThen_ok, hl w (hS w hw')]⟩
theorem ld_int {w : World} {p : Addr} {v : Value} (h : w.cell? p = some v) : (loadVar 3 p).run Tryz.prog w = .ok v w := by simp [loadVar, go_sem, h]
theorem ld_bool {w : World} {p : Addr} {v : Value} (h : w.cell? p = some v) : (loadVar 4 p).run Tryz.prog w = .ok v w := by simp [loadVar, go_sem, h]
theorem ld_string {w : World} {p : Addr} {v : Value} (h : w.cell? p = some v) : (loadVar 9 p).run Tryz.prog w = .ok v w := by simp [loadVar, go_sem, h]
/-- Texts as they are laid one behind the other. -/
def txsL (l : List ByteArray) : List UInt8 := (l.map txL).flatten
theorem txsL_snoc (l : List ByteArray) (k : Nat) (h : k < l.length) : txsL (l.take (k + 1)) = txsL (l.take k) ++ (sev l[k].size ++ l[k].data.toList) := by
  unfold txsL
  rw [List.take_succ_eq_append_getElem h, List.map_append, List.flatten_append]
  simp [txL]
set_option maxRecDepth 100000 in
set_option maxHeartbeats 800000 in
theorem ulaid_any (w : World) (B cp : Nat) (ao : Option Addr) (l : List ByteArray) (hS : Strs w B ao l) (hl : l.length ≤ 2) (hs : ∀ s ∈ l, s.size ≤ 100) :
    Calls Tryz.prog 49 #[.slice ao l.length cp] w fun e w' => e = .returned (.string (str (txsL l))) ∧ Only (fun _ => False) w w' := by
  have HS := hide hS
  have HZ := hide hs
  have HLN : Hid (∀ k, k ≤ l.length → (txsL (l.take k)).length ≤ 110 * k) := by
    intro k hk
    induction k with
    | zero => simp [txsL]
    | succ k ih =>
      rw [txsL_snoc l k (by omega)]
      have h1 := ih (by omega)
      have h2 : (sev l[k].size).length ≤ 10 := sevF_len 9 _
      have h3 := hs l[k] (List.getElem_mem _)
      have h4 : l[k].data.toList.length = l[k].size := bl_len _
      simp only [List.length_append]
      omega
  clear hS hs
  go_enter Tryz.func49, Tryz.ntmps49
  go_wp2_with fail
  refine (new_any w).mono ?_
  rintro e w1 ⟨rfl, rfl⟩
  have HW0 := hide (Wr.new w)
  have HO0 := hide (onlyA w (.cells #[.slice none 0 0] 166))
  obtain ⟨w1, hw1⟩ : ∃ x, w.alloc (.cells #[.slice none 0 0] 166) = x := ⟨_, rfl⟩
  rw [hw1] at HW0 HO0 ⊢
  clear hw1
  go_wp2_with fail
  go_loopw [9] (fun i wr => ∃ (k : Nat) (row : Option Nat), k ≤ l.length ∧ i = .int .i64 k ∧ Hid (Wr wr w.heap.size row (txsL (l.take k))) ∧ Hid (Only (fun _ => False) w wr))
    (fun i _ => l.length - (intOf i).toNat)
  case atStart => exact ⟨0, none, Nat.zero_le _, rfl, by simpa [txsL] using HW0, HO0⟩
  case round =>
    obtain ⟨k, row, hk, rfl, HW, HO⟩ := hrel
    by_cases hlt : k < l.length
    · obtain ⟨o, rfl, hc⟩ := HS.out.at_ (by omega)
      have hB := HS.out.lt (by omega)
      have ck : wr.cell? ⟨B, o + k, none⟩ = some (.string l[k]) := (HO.out.cell (p := ⟨B, o + k, none⟩) hB (fun h => h)).trans (hc k hlt)
      have hlk : (k : Int) < (l.length : Int) := by omega
      have h100 := HZ.out l[k] (List.getElem_mem hlt)
      have hll := HLN.out k hk
      have HE := hide (txsL_snoc l k hlt)
      obtain ⟨s, hs⟩ : ∃ s, l[k] = s := ⟨_, rfl⟩
      rw [hs] at ck h100 HE
      clear hc hs
      go_wp2_with fail
      refine (wtext_any wr w.heap.size row _ s HW.out (by omega)).mono ?_
      rintro e w2 ⟨rfl, row2, hW2, hg2⟩
      rw [← HE.out] at hW2
      have HW2 := hide hW2
      have HO2 : Hid (Only (fun _ => False) w w2) := HO.out.trans hg2.only (by
        rintro i hi (e | e)
        · omega
        · have := (HW.out.rowLt i e.symm).1
          omega)
      clear hW2 hg2
      go_wp2_with fail
      go_roundw
      case rel => exact ⟨k + 1, row2, by omega, by go_num, HW2, HO2⟩
      case measure => simp [intOf]; omega
    · have hlk : ¬ (k : Int) < (l.length : Int) := by omega
      have ek : l.take k = l := List.take_of_length_le (by omega)
      rw [ek] at HW
      go_wp2_with fail
      refine (wbytes_any wr w.heap.size row _ HW.out).mono ?_
      rintro e w2 ⟨rfl, rfl⟩
      go_wp2_with fail
      go_ret
      exact ⟨rfl, HO.out⟩
/-- Whether bytes begin with a dead slot's mark. -/
def fourB (l : List UInt8) : Bool := l.head? == some 4
theorem bl_inj {s t : ByteArray} (h : bl s = bl t) : s = t := by rw [← str_bl s, h, str_bl]
theorem ext_blU (s : ByteArray) (i j : Nat) : bl (s.extract i j) = ((bl s).drop i).take (j - i) := by
  unfold bl
  rw [ByteArray.data_extract, Array.toList_extract]
theorem ext_first (s : ByteArray) (h : 1 ≤ s.size) : ∃ a r, bl s = a :: r ∧ s.extract 0 1 = ⟨#[a]⟩ ∧ bl (s.extract 1 s.size) = r := by
  have hl := bl_len s
  cases e : bl s with
  | nil => rw [e] at hl; simp at hl; omega
  | cons a r =>
    refine ⟨a, r, rfl, bl_inj ?_, ?_⟩
    · rw [ext_blU, e]; rfl
    · rw [ext_blU, e]
      rw [e] at hl
      simp only [List.length_cons] at hl
      exact List.take_of_length_le (by simp; omega)
theorem hasPrefix_any (s : ByteArray) (w : World) : Calls Tryz.prog 133 #[.string s, .string ⟨#[4]⟩] w fun e w' => e = .returned (.bool (fourB (bl s))) ∧ w' = w := by
  by_cases h : 1 ≤ s.size
  · obtain ⟨a, r, h1, h2, h3⟩ := ext_first s h
    have hz : (1 : Int) ≤ (s.size : Int) := by omega
    have hb : fourB (bl s) = ((s.extract 0 1).toList == (⟨#[4]⟩ : ByteArray).toList) := by
      rw [h1, h2]
      by_cases e : a = 4
      · subst e; rw [ba_eqU rfl]; rfl
      · rw [ba_neU (one_ne e)]
        simpa [fourB] using e
    rw [hb]
    clear h1 h2 h3 hb h
    go_enter Tryz.func133, Tryz.ntmps133
    go_wp2
    go_ret
    exact ⟨ret_bool (by rw [ByteArray.toList_eq ⟨#[4]⟩]), rfl⟩
  · have hz : ¬ (1 : Int) ≤ (s.size : Int) := by omega
    have hb : fourB (bl s) = false := by
      have := bl_len s
      rw [List.eq_nil_of_length_eq_zero (l := bl s) (by omega)]
      rfl
    rw [hb]
    clear h hb
    go_enter Tryz.func133, Tryz.ntmps133
    go_wp2
    go_ret
    exact ⟨rfl, rfl⟩
/-- What is left of bytes behind a dead slot's mark; without it all. -/
def behind (s : ByteArray) : ByteArray := if fourB (bl s) then s.extract 1 s.size else s
theorem slCut_any (s : ByteArray) (w : World) : Calls Tryz.prog 183 #[.string s, .string ⟨#[4]⟩] w fun e w' => e = .returned (.tuple #[.string (behind s), .bool (fourB (bl s))]) ∧ w' = w := by
  have hc := hasPrefix_any s w
  have hz : fourB (bl s) = true → (1 : Int) ≤ (s.size : Int) := by
    intro h
    have := bl_len s
    rcases Nat.eq_zero_or_pos s.size with e | e
    · rw [List.eq_nil_of_length_eq_zero (l := bl s) (by omega)] at h
      cases h
    · omega
  unfold behind
  cases hb : fourB (bl s)
  · rw [hb] at hc
    clear hz hb
    go_enter Tryz.func183, Tryz.ntmps183
    go_wp2_with (go_at_call 133; refine hc.mono ?_; rintro e w' ⟨rfl, hw⟩; obtain rfl := hw.symm; clear hw)
    go_ret2
    exact ⟨rfl, rfl⟩
  · rw [hb] at hc
    have hz := hz hb
    clear hb
    go_enter Tryz.func183, Tryz.ntmps183
    go_wp2_with (go_at_call 133; refine hc.mono ?_; rintro e w' ⟨rfl, hw⟩; obtain rfl := hw.symm; clear hw)
    go_ret2
    exact ⟨rfl, rfl⟩
theorem cut_any (s : ByteArray) (w : World) : Calls Tryz.prog 144 #[.string s, .string ⟨#[4]⟩] w fun e w' => e = .returned (.tuple #[.string (behind s), .bool (fourB (bl s))]) ∧ w' = w := by
  have hc := slCut_any s w
  go_enter Tryz.func144, Tryz.ntmps144
  go_wp2_with (go_at_call 183; refine hc.mono ?_; rintro e w' ⟨rfl, hw⟩; obtain rfl := hw.symm; clear hw)
  go_ret2
  exact ⟨rfl, rfl⟩
structure Im where
  page : Int
  body : Pg
structure Rc where
  lsn : Int
  prev : Int
  next : Int
  kind : Int
  xid : Int
  page : Int
  slot : Int
  old : Int
  new : Int
  redo : Int
  data : ByteArray
  slots : List Int
  more : List Int
  images : List Im
  pages : List (Int × Int)
  txns : List (Int × Int)
def Rc.none : Rc := ⟨0, 0, 0, 0, 0, 0, 0, 0, 0, 0, ⟨#[]⟩, [], [], [], [], []⟩
/-- The greatest number. -/
abbrev top : Int := 4611686018427387904
end Go.Proofs.YtpnbhddmdfcjdaaGreat
namespace Go.Proofs.YtpnbhddmdfcjdaaGreat
open Go.RowKit
/-- Numbers that the value v owns. -/
def ncs (ks : List Int) : List Value := ks.map fun k => Value.int .i64 k
theorem ncs_len (ks : List Int) : (ncs ks).length = ks.length := by simp [ncs]
def Kts (w : World) (base : Nat) (v : Value) (ks : List Int) : Prop := w.ownsRow base 3 1 v ks.length (ncs ks)
theorem Kts.kept {S : Nat → Prop} {w w' : World} {base : Nat} {v : Value} {es : List Int} (h : Kts w base v es) (ho : Only S w w') (hS : ∀ k, v.ownBlock = some k → ¬ S k) : Kts w' base v es := by
  obtain ⟨h1, h2⟩ := h
  refine ⟨h1, ?_⟩
  rcases h2 with h2 | ⟨g, cap, cur, hv, hg, hh, r⟩
  · exact .inl h2
  · subst hv
    exact .inr ⟨g, cap, cur, rfl, hg, by rw [ho.block g (Array.getElem?_eq_some_iff.1 hh).1 (hS g rfl)]; exact hh, r⟩
theorem Kts.more {w w' : World} {base : Nat} {v : Value} {es : List Int} (h : Kts w base v es) (ho : Only (fun _ => False) w w') : Kts w' base v es := h.kept ho (fun _ _ h => h)
theorem Tryz.infoIn : (Tryz.prog.info? 3).map (fun i => (i.zero, i.size, i.bytes)) = some (some (.int .i64 0), 1, 8) := by kernel_rfl
end Go.Proofs.YtpnbhddmdfcjdaaGreat
