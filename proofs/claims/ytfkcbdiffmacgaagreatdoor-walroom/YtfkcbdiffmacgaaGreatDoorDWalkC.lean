/- What sector and Read do. -/
import Derived.Test.YtfkcbdiffmacgaaGreatDoorDWalkB
namespace Go.Proofs.YtfkcbdiffmacgaaGreatDoor
open Go.RowKit

theorem Frs.look {w : World} {m n : Nat} {f : Nat → Option (List UInt8)} (h : Frs w m n f) (hn : n ≤ 65536) {k : Nat} (hk : k < n) :
    (Instr.lookup 53 (.map (some m)) (.int .i64 (k : Int)) true).run Tryz.prog w = .ok (.tuple #[sec ((f k).getD zeros), .bool (f k).isSome]) w
    ∧ (Instr.lookup 53 (.map (some m)) (.int .i64 (k : Int)) false).run Tryz.prog w = .ok (sec ((f k).getD zeros)) w := by
  obtain ⟨N, D, hown, hD⟩ := h
  have hz := secElem_mk zeros_len
  obtain ⟨v, ps, h1, h2⟩ := hown.look_ok keyed Tryz.underlying53 (zero_sec w) hz (key_ok (k := k) (by omega))
  obtain ⟨v', ps', h3, h4⟩ := hown.lookup keyed Tryz.underlying53 (zero_sec w) hz (key_ok (k := k) (by omega))
  rw [hD.has k] at h1
  have e : D.atKey (.int .i64 (k : Int)) (.lit (.string zeros)) = .lit (.string ((f k).getD zeros)) := by
    cases hf : f k with
    | none => 
      rw [Maps.atKey_of_not_has (by rw [hD.has k, hf]; rfl)]
      rfl
    | some b => rw [hD.at_ k b hf]; rfl
  rw [e] at h2 h4
  have key : ∀ v ps, secElem v = some (DataW.lit (.string ((f k).getD zeros)), ps) → v = sec ((f k).getD zeros) := by
    intro v ps hv
    obtain ⟨l, hl, rfl, hz2⟩ := secElem_inv hv
    simp only [Prod.mk.injEq, DataW.lit.injEq, Lit.string.injEq] at hz2
    rw [hz2.1]
  rw [key v ps h2] at h1
  rw [key v' ps' h4] at h3
  exact ⟨h1, h3⟩

theorem cell_new (w : World) (o : Obj) (p : Addr) (v : Value) (h : w.cell? p = some v) : (w.alloc o).cell? p = some v := by
  rw [World.cell?_alloc_lt _ _ _ (World.block_lt_of_cell? w _ h)]
  exact h
set_option maxRecDepth 100000 in
set_option maxHeartbeats 800000 in
theorem sector_any (w : World) (d g m : Nat) (D : Dk) (h : Dsk w d g m D) (k : Nat) (hk : k < D.old.length) :
    Calls Tryz.prog 70 #[.pointer (some ⟨d, 0, none⟩), .int .i64 (k : Int)] w fun e w' => e = .returned (sec (D.cur k)) ∧ Only (fun _ => False) w w' := by
  have hi := h.ok.hi
  obtain ⟨lk, _⟩ := (h.alloc (secObj zeros)).map.look hi hk
  have c1 := (h.alloc (secObj zeros)).c1
  have hO : Only (fun _ => False) w ((w.alloc (secObj zeros)).alloc (secObj zeros)) := (Only.alloc _ _ _).trans (Only.alloc _ _ _) (fun _ _ h => h)
  cases hf : D.fresh k with
  | some b =>
    rw [hf] at lk
    simp only [Option.getD_some, Option.isSome_some] at lk
    have hb := (h.ok.f64 k b hf).2
    have e : D.cur k = b := by unfold Dk.cur; rw [hf]; rfl
    rw [e]
    have HT5 := hide (alloc_there (w.alloc (secObj zeros)) zeros zeros_len)
    have HT4 := hide (World.there_setCells (World.there_alloc (alloc_there w zeros zeros_len) (secObj zeros)) (w.heap.size + 1) 0 (cells b))
    have H := hide h
    have HO := hide hO
    clear h hf e hO
    go_enter Tryz.func70, Tryz.ntmps70
    go_wp2_with (first
      | (refine wpList_alloc_sec _ rfl rfl ?_)
      | (refine wpList_load_sec _ rfl (.tmp 5) rfl _ _ rfl b hb (World.rangeAt_setCells_same _ _ _ _ (by rw [cells_length, hb]; simpa using HT5.out)) ?_)
      | (refine wpList_store_sec _ rfl (.tmp 5) (.tmp 14) rfl _ _ rfl b rfl hb (by simpa using HT5.out) ?_)
      | (refine wpList_store_sec _ rfl (.tmp 4) (.tmp 17) rfl _ _ rfl b rfl hb HT4.out ?_))
    refine bodyPost_ret (results_sec rfl _ _ w.heap.size b hb rfl (World.rangeAt_setCells_same _ _ _ _ (by rw [cells_length, hb]; exact HT4.out))) rfl ?_
    refine ⟨rfl, (HO.out.trans (Only.setCells (S := fun i => i = w.heap.size + 1) _ rfl _ _ _) (fun i hi e => by omega)).trans (Only.setCells (S := fun i => i = w.heap.size) _ rfl _ _ _) (fun i hi e => by omega)⟩
  | none =>
    rw [hf] at lk
    simp only [Option.getD_none, Option.isSome_none] at lk
    have e : D.cur k = D.old.getD k [] := by unfold Dk.cur; rw [hf]; rfl
    rw [e]
    obtain ⟨b, hbd⟩ : ∃ b, D.old.getD k [] = b := ⟨_, rfl⟩
    have hb : b.length = 64 := by rw [← hbd]; exact h.ok.o64 k hk
    rw [hbd]
    have hO2 := hO.trans (Only.setCells (S := fun i => i = w.heap.size + 1) (w.heap.size + 1) rfl (cells zeros) 0 ((w.alloc (secObj zeros)).alloc (secObj zeros))) (fun i hi e => by omega)
    have h2 := h.same hO2
    have c0 := h2.c0
    have hr := h2.old.range hk
    rw [hbd] at hr
    have HR := hide hr
    have HT5 := hide (alloc_there (w.alloc (secObj zeros)) zeros zeros_len)
    have HT4 := hide (World.there_setCells (World.there_alloc (alloc_there w zeros zeros_len) (secObj zeros)) (w.heap.size + 1) 0 (cells zeros))
    have HO := hide hO2
    have hk1 : (k : Int) < (D.old.length : Int) := by omega
    have hk0 : (0 : Int) ≤ (k : Int) := by omega
    clear h hf e hO hr h2 hO2 hbd
    go_enter Tryz.func70, Tryz.ntmps70
    go_wp2_with (first
      | (refine wpList_alloc_sec _ rfl rfl ?_)
      | (refine wpList_load_sec _ rfl (.tmp 23) rfl _ _ rfl b hb HR.out ?_)
      | (refine wpList_store_sec _ rfl (.tmp 5) (.tmp 14) rfl _ _ rfl zeros rfl zeros_len (by simpa using HT5.out) ?_)
      | (refine wpList_store_sec _ rfl (.tmp 4) (.tmp 24) rfl _ _ rfl b rfl hb HT4.out ?_))
    refine bodyPost_ret (results_sec rfl _ _ w.heap.size b hb rfl (World.rangeAt_setCells_same _ _ _ _ (by rw [cells_length, hb]; exact HT4.out))) rfl ?_
    refine ⟨rfl, HO.out.trans (Only.setCells (S := fun i => i = w.heap.size) _ rfl _ _ _) (fun i hi e => by omega)⟩

theorem Tryz.dinfoByte : (Tryz.prog.info? 5).map (fun i => (i.zero, i.size, i.bytes)) = some (some (.int .u8 0), 1, 1) := by kernel_rfl
/-- Bytes appended to a row that is owned. -/
theorem wpList_bytes {P : Program} (w : World) {ops : Array Oper} {rest : List Oper} {o : Oper} {a : Act} {Q : Exit → Act → World → Prop} (hgd : o.guard = none) (s x : Operand) (t : TypeId)
    (ho : o.op = .call { callee := .builtin .append, args := #[s, x], argTypes := #[t, t] })
    (base : Nat) (i : TypeInfo) (ht : P.underlying t = some (.slice 5)) (hi : P.info? 5 = some i) (hz : i.zero = some (.int .u8 0)) (hsize : i.size = 1) (hby : i.bytes = 1)
    (v : Value) (row : Option Nat) (l : List UInt8) (hs : a.eval s = v) (hown : Row w base v row l)
    (b f c ln : Nat) (n : List UInt8) (hln : n.length = ln) (hx : a.eval x = .slice (some ⟨b, f, none⟩) ln c) (hd : w.rangeAt b f (cells n)) (hn : 0 < n.length)
    (h63 : l.length + n.length ≤ 158329674399744) (hbase : base ≤ w.heap.size)
    (h : ∀ v' w' row', Row w' base v' row' (l ++ n) → Only (fun k => some k = row) w w' → (row' = row ∨ row' = some w.heap.size) → wpList P ops Q rest (a.put o.dst v') w') : wpList P ops Q (o :: rest) a w := by
  subst hln
  obtain ⟨v', w', hr, h2, h3, h5⟩ := append_bytes (P := P) w base t o.type 5 i ht hi hz hsize hby v l.length (cells l) hown.own ⟨b, f, none⟩ n.length c (cells n) (cells_length n) (fun j u hu => by rw [Addr.add_mid]; exact hd j u hu) (cells_one n) h63 hn hbase
  refine wpList_plain hgd fun K hK => ?_
  unfold Oper.wp execOp
  simp only [ho, resolve, invoke, builtin, Sem.run_bind, Sem.run_pure, Result.andThen_ok, List.map_toArray, List.map_cons, List.map_nil, hs, hx, hr]
  refine hK _ _ (h v' w' v'.ownBlock ⟨?_, rfl⟩ (Only.grown h3 (fun k hk => hk.symm.trans hown.at_)) (by rw [← hown.at_]; exact h5))
  have e : l.length + n.length = (l ++ n).length := by simp
  rw [cells_append, ← e]
  exact h2
/-- What a row is as a string. -/
theorem dbytes_back (w : World) (base : Nat) (v : Value) (row : Option Nat) (l : List UInt8) (hr : Row w base v row l) : (convert 60 9 v).run Tryz.prog w = .ok (.string ⟨l.toArray⟩) w := by
  rcases hr.own.2 with ⟨rfl, hn⟩ | ⟨g, cap, cur, rfl, hb, hg, hn, hm, hs, htake⟩
  · have e : l = [] := List.eq_nil_of_length_eq_zero hn
    subst e
    rw [run_convert_bytes_nil w 60 5 Tryz.underlying60 Tryz.underlying5 0 0 9 Tryz.underlying9]
    rfl
  · refine run_convert_bytes_back w 60 9 5 ⟨g, 0, none⟩ cap l Tryz.underlying60 Tryz.underlying5 Tryz.underlying9 ?_
    intro j hj
    refine hr.own.cells (g := g) rfl j _ ?_
    unfold cells
    simp [List.getElem?_eq_getElem hj]
theorem bytes_snoc (D : Dk) (k j : Nat) : D.bytes k (j + 1) = D.bytes k j ++ D.cur (k + j) := by
  unfold Dk.bytes
  rw [List.range_succ, List.map_append, List.flatten_append]
  simp
theorem bytes_len {D : Dk} (h : D.Ok) (k j : Nat) (hj : k + j ≤ D.old.length) : (D.bytes k j).length = 64 * j := by
  induction j with
  | zero => rfl
  | succ j ih =>
    rw [bytes_snoc, List.length_append, ih (by omega), h.cur64 (by omega)]
    omega
/-- A variable of a sector, made and stored into. -/
noncomputable def secVar (w : World) (b : List UInt8) : World := (w.alloc (secObj zeros)).setCells w.heap.size 0 (cells b)
theorem secVar_only (w : World) (b : List UInt8) : Only (fun _ => False) w (secVar w b) :=
  (Only.alloc _ _ _).trans (Only.setCells (S := fun i => i = w.heap.size) _ rfl _ _ _) (fun i hi e => by omega)
theorem secVar_range (w : World) (b : List UInt8) (hb : b.length = 64) : (secVar w b).rangeAt w.heap.size 0 (cells b) :=
  World.rangeAt_setCells_same _ _ _ _ (by rw [cells_length, hb]; exact alloc_there w zeros zeros_len)
theorem setCells_size (b : Nat) : ∀ (vs : List Value) (o : Nat) (w : World), (w.setCells b o vs).heap.size = w.heap.size
  | [], _, _ => rfl
  | v :: r, o, w => by rw [World.setCells, setCells_size b r (o + 1)]; simp
theorem secVar_size (w : World) (b : List UInt8) : (secVar w b).heap.size = w.heap.size + 1 := by
  unfold secVar
  rw [setCells_size]
  simp
theorem read_nil (w : World) (u v : Value) : Calls Tryz.prog 49 #[.pointer none, u, v] w fun e w' => e = .returned (.tuple #[.string ⟨#[]⟩, .int .i64 2]) ∧ w' = w := by
  go_enter Tryz.func49, Tryz.ntmps49
  go_wp2_with (first | (go_at_call 37; refine (usable_nil _).mono ?_; rintro e w' ⟨rfl, rfl⟩))
  go_ret2
  exact ⟨rfl, rfl⟩
theorem read_bad (w : World) (d g m : Nat) (D : Dk) (h : Dsk w d g m D) (a n : Int) (ha : -9223372036854775808 ≤ a ∧ a < 9223372036854775808) (hb : D.dead = true ∨ hasB D.old.length a n = false) :
    Calls Tryz.prog 49 #[.pointer (some ⟨d, 0, none⟩), .int .i64 a, .int .i64 n] w fun e w' => e = .returned (.tuple #[.string ⟨#[]⟩, .int .i64 (if D.dead then 5 else 20)]) ∧ w' = w := by
  have hu := usable_any w d g m D h
  have hh := has_any w d g m D h a n ha
  cases hd : D.dead
  · rw [hd] at hb hu
    have e : hasB D.old.length a n = false := by rcases hb with h | h; cases h; exact h
    rw [e] at hh
    clear hd hb h e ha
    go_enter Tryz.func49, Tryz.ntmps49
    go_wp2_with (first | (go_at_call 37; refine hu.mono ?_; rintro e w' ⟨rfl, rfl⟩) | (go_at_call 38; refine hh.mono ?_; rintro e w' ⟨rfl, rfl⟩))
    go_ret2
    exact ⟨rfl, rfl⟩
  · rw [hd] at hu
    clear hd hb h ha
    go_enter Tryz.func49, Tryz.ntmps49
    go_wp2_with (first | (go_at_call 37; refine hu.mono ?_; rintro e w' ⟨rfl, rfl⟩))
    go_ret2
    exact ⟨rfl, rfl⟩
set_option maxRecDepth 100000 in
set_option maxHeartbeats 800000 in
theorem read_ok (w : World) (d g m : Nat) (D : Dk) (h : Dsk w d g m D) (a n : Nat) (hd : D.dead = false) (hn : a + n ≤ D.old.length) :
    Calls Tryz.prog 49 #[.pointer (some ⟨d, 0, none⟩), .int .i64 (a : Int), .int .i64 (n : Int)] w fun e w' => e = .returned (.tuple #[.string ⟨(D.bytes a n).toArray⟩, .int .i64 0]) ∧ Only (fun _ => False) w w' := by
  have hu := usable_any w d g m D h
  have hh := has_any w d g m D h a n (by have := h.ok.hi; omega)
  have e : hasB D.old.length a n = true := by unfold hasB; simp; omega
  rw [e] at hh
  rw [hd] at hu
  have h64 := h.ok.hi
  have H := hide h
  have HD := hide hd
  have hsec := fun w' (ho : Only (fun _ => False) w w') k (hk : k < D.old.length) => sector_any w' d g m D (h.same ho) k hk
  have HS := hide hsec
  obtain ⟨i0, hi, hz0, hz1, hz2⟩ := info_parts Tryz.dinfoByte
  clear h hd e hsec
  go_enter Tryz.func49, Tryz.ntmps49
  go_wp2_with (first
    | (go_at_call 37; refine hu.mono ?_; rintro e w' ⟨rfl, hw⟩; obtain rfl := hw.symm)
    | (go_at_call 38; refine hh.mono ?_; rintro e w' ⟨rfl, hw⟩; obtain rfl := hw.symm)
    | (at_make; refine wpList_make_own _ rfl _ _ 60 rfl w.heap.size 5 i0 (.int .u8 0) 1 Tryz.underlying60 hi hz0 hz1 .i64 .i64 _ (n * 64) rfl rfl (by omega) (by rw [hz2]; omega) (by unfold maxLen; omega) (Nat.le_refl _) ?_; intro w0 hown0 hgrow0))
  have hO0 : Only (fun _ => False) w w0 := Only.grown hgrow0 (fun k hk => by cases hk)
  have HO0 := hide hO0
  have HR0 : Hid (Row w0 w.heap.size (.slice (some ⟨w.heap.size, 0, none⟩) 0 (n * 64)) (some w.heap.size) []) := ⟨hown0, rfl⟩
  have hs0 := hgrow0.size
  clear hO0 hown0 hgrow0 hu hh
  go_wp2
  go_loopw [9, 10] (fun x y wr => ∃ (j : Nat) (row : Option Nat), j ≤ n ∧ y = .int .i64 ((a + j : Nat) : Int) ∧ Hid (Row wr w.heap.size x row (D.bytes a j)) ∧ Hid (Only (fun _ => False) w wr)) (fun _ y _ => a + n - (intOf y).toNat)
  case atStart => exact ⟨0, some w.heap.size, by omega, by go_num, HR0, HO0⟩
  case round =>
    obtain ⟨j, row, hj, rfl, HR, HO⟩ := hrel
    by_cases hlt : j < n
    · have hc := HS.out wr HO.out (a + j) (by omega)
      have hcl := H.out.ok.cur64 (k := a + j) (by omega)
      have hbl := bytes_len H.out.ok a j (by omega)
      obtain ⟨b, hb⟩ : ∃ b, D.cur (a + j) = b := ⟨_, rfl⟩
      rw [hb] at hc hcl
      have HB := hide hb
      clear hb
      have hwr := HO.out.size
      go_wp2_with (first
        | (go_at_call 70; refine hc.mono ?_; rintro e w1 ⟨rfl, hO1⟩)
        | (refine wpList_alloc_sec _ rfl rfl ?_)
        | (refine wpList_store_sec _ rfl (.tmp 11) (.tmp 35) rfl _ _ rfl b rfl hcl (alloc_there _ zeros zeros_len) ?_)
        | (at_builtin; go_must (refine wpList_bytes _ rfl (.tmp 36) (.tmp 37) 60 rfl w.heap.size i0 Tryz.underlying60 hi hz0 hz1 hz2 _ row (D.bytes a j) rfl ((HR.out.kept hO1 (fun _ _ h => h)).kept (secVar_only w1 b) (fun _ _ h => h)) w1.heap.size 0 64 64 b hcl rfl (secVar_range w1 b hcl) (by omega) (by omega) (by have := hO1.size; have := (secVar_only w1 b).size; unfold secVar at this; omega) ?_); intro v2 w2 row2 hR2 hO2 hrow2))
      have hx2 := HR.out.lt
      have hO3 : Only (fun _ => False) w w2 := by
        have h1 := (HO.out.trans hO1 (fun _ _ h => h)).trans (secVar_only w1 b) (fun _ _ h => h)
        refine h1.trans hO2 (fun i hi e => ?_)
        have := (hx2 i e.symm).1
        omega
      go_roundw
      case rel => exact ⟨j + 1, row2, by omega, by go_num, by rw [bytes_snoc, HB.out]; exact hide hR2, hide hO3⟩
      case measure => simp [intOf]; omega
    · have ej : j = n := by omega
      subst ej
      have hcv := dbytes_back wr _ _ row _ HR.out
      go_wp2
      go_ret2
      exact ⟨rfl, HO.out⟩
theorem dread_any (w : World) (d g m : Nat) (D : Dk) (h : Dsk w d g m D) (a n : Int) (ha : -9223372036854775808 ≤ a ∧ a < 9223372036854775808) :
    Calls Tryz.prog 49 #[.pointer (some ⟨d, 0, none⟩), .int .i64 a, .int .i64 n] w fun e w' => e = .returned (.tuple #[.string ⟨(D.read a n).1.toArray⟩, .int .i64 (D.read a n).2]) ∧ Only (fun _ => False) w w' := by
  by_cases hb : D.dead = true ∨ hasB D.old.length a n = false
  · refine (read_bad w d g m D h a n ha hb).mono ?_
    rintro e w' ⟨rfl, rfl⟩
    refine ⟨?_, Only.refl _ _⟩
    unfold Dk.read
    rcases hb with hb | hb
    · simp [hb]
    · cases hd : D.dead <;> simp [hb]
  · have hd : D.dead = false := by simpa using fun e => hb (.inl e)
    have hh : hasB D.old.length a n = true := by simpa using fun e => hb (.inr e)
    have e : D.read a n = (D.bytes a.toNat n.toNat, 0) := by unfold Dk.read; simp [hd, hh]
    unfold hasB at hh
    simp at hh
    obtain ⟨a', rfl⟩ := Int.eq_ofNat_of_zero_le hh.1
    obtain ⟨n', rfl⟩ := Int.eq_ofNat_of_zero_le hh.2.1
    rw [e]
    exact read_ok w d g m D h a' n' hd (by omega)
end Go.Proofs.YtfkcbdiffmacgaaGreatDoor
