/- Parts. -/
import Derived.Test.YtajjakljheafjaaGreatK25
import Derived.Test.YtajjakljheafjaaGreatK24
import Derived.Lib.AppendZeros
set_option maxRecDepth 100000
namespace Go.Proofs.YtajjakljheafjaaGreat
open Go.RowKit
/-- It ends with an error, unless it has ended. -/
def Pn.fl (P : Pn) (e : Int) : Pn := if P.wk = 4 then P else Pn.over e false ⟨#[]⟩ none [] 0
theorem RowsAt.none (w : World) : RowsAt w 0 (.slice none 0 0) [] := GRow.nil _ _
theorem Fail_any (w : World) (Z : Nat → Prop) (p : Nat) (P : Pn) (h : Pm w Z p P) (e : Int) :
    Calls Tryz.prog 15 #[.pointer (some ⟨p, 0, none⟩), .int .i64 e] w fun x w' => x = .returned (.tuple #[]) ∧ Pm w' Z p (P.fl e) ∧ Only (fun k => k = p) w w' := by
  have HH := hide h
  have HW := hide (wants_any w Z p P h 4)
  have HE := hide (end_any w Z p P h e false ⟨#[]⟩ none [] 0 (RowsAt.none _) (fun _ q => by cases q))
  clear h
  unfold Pn.fl
  by_cases hk : P.wk = 4
  · have hb : (P.wk == 4) = true := by simp [hk]
    simp only [if_pos hk, hb] at HW ⊢
    clear hb hk
    go_enter Tryz.func15, Tryz.ntmps15
    go_wp2_with fail
    refine HW.out.mono ?_
    rintro x w1 ⟨rfl, rfl⟩
    go_wp2_with fail
    refine bodyPost_end (results_none rfl _ _ _) rfl ?_
    exact ⟨rfl, HH.out, Only.refl _ _⟩
  · have hb : (P.wk == 4) = false := by simp [hk]
    simp only [if_neg hk, hb] at HW ⊢
    clear hb hk
    go_enter Tryz.func15, Tryz.ntmps15
    go_wp2_with fail
    refine HW.out.mono ?_
    rintro x w1 ⟨rfl, rfl⟩
    go_wp2_with fail
    refine HE.out.mono ?_
    rintro x w1 ⟨rfl, hp, ho⟩
    have HP := hide hp
    have HO := hide ho
    clear hp ho
    go_wp2_with fail
    refine bodyPost_end (results_none rfl _ _ _) rfl ?_
    exact ⟨rfl, HP.out, HO.out⟩
theorem Fail_nil (w : World) (e : Int) : Calls Tryz.prog 15 #[.pointer none, .int .i64 e] w fun x w' => x = .returned (.tuple #[]) ∧ w' = w := by
  go_enter Tryz.func15, Tryz.ntmps15
  go_wp2_with fail
  refine bodyPost_end (results_none rfl _ _ _) rfl ?_
  exact ⟨rfl, rfl⟩
set_option maxRecDepth 100000 in
set_option maxHeartbeats 800000 in
theorem failS_any (w : World) (Z : Nat → Prop) (p : Nat) (P : Pn) (h : Pm w Z p P) (e : Int) :
    Calls Tryz.prog 63 #[.pointer (some ⟨p, 0, none⟩), .int .i64 e] w fun x w' => x = .returned noRec ∧ Pm w' Z p (P.fl e) ∧ Only (fun k => k = p) w w' := by
  have HN := hide (Hb.new w Hr.none)
  have HO := hide (onlyA w (.cells Hr.none.cells 50))
  have HF := hide (Fail_any _ Z p P (h.more HO.out) e)
  have HLZ : Hid (¬ Z w.heap.size) := fun e => by have := h.zlt _ e; omega
  have HLT : Hid (¬ w.heap.size = p) := fun e => HLZ.out (by rw [e]; exact h.zp)
  clear h
  go_enter Tryz.func63, Tryz.ntmps63
  go_wp2_with fail
  refine HF.out.mono ?_
  rintro x w1 ⟨rfl, hp, ho⟩
  have HP := hide hp
  have HN1 := hide (HN.out.kept ho HLT.out)
  have HO1 := hide (Op.none HO.out ho)
  clear hp ho HF HN HO
  go_wp2_with fail
  refine (nothing_any _).mono ?_
  rintro x w2 ⟨rfl, ho⟩
  have HP2 := hide (HP.out.more ho)
  have HN2 := hide (HN1.out.more ho)
  have HO2 := hide (Op.fst HO1.out ho)
  clear ho HP HN1 HO1
  unfold noRec
  go_wp2_with (refine wpList_put_hr rfl (.tmp 4) (.tmp 10) rfl w.heap.size rfl Hr.none Hr.none rfl HN2.out ?_; intro W9 HW9; go_frame)
  refine bodyPost_ret (results_hr rfl rfl HW9.out.at_) rfl ?_
  exact ⟨rfl, HP2.out.late HW9.out.only HLZ.out, Op.own HO2.out HW9.out.only (Nat.le_refl _)⟩
/-- It goes down for an entry to a level. -/
def Pn.dn (P : Pn) (e : En) (lv : Int) (f : Nat) : Pn := { P with te := e, lv := lv, seen := 0, th := some f }
def Pn.go (P : Pn) (e : En) (lv : Int) (f : Nat) : Pn := (P.dn e lv f).see 1 92
set_option maxRecDepth 100000 in
set_option maxHeartbeats 800000 in
theorem goDown_any (w : World) (Z : Nat → Prop) (p : Nat) (P : Pn) (h : Pm w Z p P) (e : En) (lv : Int) (f : Nat) :
    Calls Tryz.prog 50 #[.pointer (some ⟨p, 0, none⟩), .agg #[.string e.key, .int .i64 e.page, .int .i64 e.slot], .int .i64 lv, .func (.func f) #[.pointer (some ⟨p, 0, none⟩)] #[]] w fun x w' => x = .returned (.tuple #[]) ∧ Pm w' Z p (P.go e lv f) ∧ Only (fun k => k = p) w w' := by
  have hmf : ∀ (fn : Fn) (first cap : Array Value) (w : World), (Instr.makeFunc fn first cap).run Tryz.prog w = .ok (.func fn first cap) w := fun _ _ _ _ => rfl
  have HH := hide (h.more (onlyA w (.cells #[.string e.key, .int .i64 e.page, .int .i64 e.slot] 89)))
  have HA := hide (onlyA w (.cells #[.string e.key, .int .i64 e.page, .int .i64 e.slot] 89))
  have HX : Hid (∃ W, w.alloc (.cells #[.string e.key, .int .i64 e.page, .int .i64 e.slot] 89) = W ∧ W.cell? ⟨w.heap.size, 0, none⟩ = some (.string e.key) ∧ W.cell? ⟨w.heap.size, 1, none⟩ = some (.int .i64 e.page) ∧ W.cell? ⟨w.heap.size, 2, none⟩ = some (.int .i64 e.slot)) :=
    ⟨_, rfl, (Cb.new w [.string e.key, .int .i64 e.page, .int .i64 e.slot] 89).c 0 _ rfl, (Cb.new w [.string e.key, .int .i64 e.page, .int .i64 e.slot] 89).c 1 _ rfl, (Cb.new w [.string e.key, .int .i64 e.page, .int .i64 e.slot] 89).c 2 _ rfl⟩
  clear h
  go_enter Tryz.func50, Tryz.ntmps50
  go_upto_region 1 with fail
  obtain ⟨W, hW, d0, d1, d2⟩ := HX.out
  rw [hW] at HH HA ⊢
  clear hW HX
  have c11 := HH.out.cb.c 11 _ rfl
  have c12 := HH.out.cb.c 12 _ rfl
  have c13 := HH.out.cb.c 13 _ rfl
  have c14 := HH.out.cb.c 14 _ rfl
  have c15 := HH.out.cb.c 15 _ rfl
  have c16 := HH.out.cb.c 16 _ rfl
  have f11 := HH.out.cb.f 11
  have f12 := HH.out.cb.f 12
  have f13 := HH.out.cb.f 13
  have f14 := HH.out.cb.f 14
  have f15 := HH.out.cb.f 15
  have f16 := HH.out.cb.f 16
  go_wp2_with fail
  have HO := ((((((Only.put W p 11 (.string e.key)).puts 12 (.int .i64 e.page)).puts 13 (.int .i64 e.slot)).puts 14 (.int .i64 lv)).puts 15 (.int .i64 0)).puts 16 (.func (.func f) #[.pointer (some ⟨p, 0, none⟩)] #[]))
  have HP := HH.out.mod (Q := P.dn e lv f) HO ((((((HH.out.cb.set 11 _).set 12 _).set 13 _).set 14 _).set 15 _).set 16 _) ⟨rfl, rfl, rfl⟩ ⟨rfl, rfl⟩
  refine (see_any _ Z p (P.dn e lv f) HP 1 92).mono ?_
  rintro x w1 ⟨rfl, hp, ho⟩
  have HP1 := hide hp
  have HO1 := hide (Op.two (Op.none HA.out HO) ho)
  clear hp ho HP HO c11 c12 c13 c14 c15 c16 f11 f12 f13 f14 f15 f16
  go_wp2_with fail
  refine bodyPost_end (results_none rfl _ _ _) rfl ?_
  exact ⟨rfl, HP1.out, HO1.out⟩
/-- The key from which it looks. -/
def Pn.frm (P : Pn) : ByteArray := if P.key = ⟨#[]⟩ then ⟨#[0]⟩ else P.key
def Pn.lks (P : Pn) : Pn := P.go ⟨P.frm, 0, 0⟩ 0 51
set_option maxRecDepth 100000 in
set_option maxHeartbeats 800000 in
theorem looks_any (w : World) (Z : Nat → Prop) (p : Nat) (P : Pn) (h : Pm w Z p P) :
    Calls Tryz.prog 27 #[.pointer (some ⟨p, 0, none⟩)] w fun x w' => x = .returned (.tuple #[]) ∧ Pm w' Z p P.lks ∧ Only (fun k => k = p) w w' := by
  have hmf : ∀ (fn : Fn) (first cap : Array Value) (w : World), (Instr.makeFunc fn first cap).run Tryz.prog w = .ok (.func fn first cap) w := fun _ _ _ _ => rfl
  have c1 := h.cb.c 1 _ rfl
  have HG := hide (fun (e : En) => goDown_any w Z p P h e 0 51)
  unfold Pn.lks Pn.frm
  by_cases hk : P.key = ⟨#[]⟩
  · rw [if_pos hk]
    rw [hk] at c1
    clear hk h
    go_enter Tryz.func27, Tryz.ntmps27
    go_wp2_with fail
    refine (HG.out ⟨⟨#[0]⟩, 0, 0⟩).mono ?_
    rintro x w1 ⟨rfl, hp, ho⟩
    have HP1 := hide hp
    have HO1 := hide ho
    clear hp ho c1
    go_wp2_with fail
    refine bodyPost_end (results_none rfl _ _ _) rfl ?_
    exact ⟨rfl, HP1.out, HO1.out⟩
  · rw [if_neg hk]
    have hb := ba_neN hk
    have hb2 : P.key.toList.isEmpty = false := by
      rw [ByteArray.toList_eq]
      cases q : P.key.data.toList with
      | nil => exact absurd (by cases hq : P.key; rw [hq] at q; simp at q; rw [q]) hk
      | cons a l => rfl
    obtain ⟨K, hK⟩ : ∃ K, P.key = K := ⟨_, rfl⟩
    rw [hK] at c1 hb hb2 ⊢
    clear hk h hK
    go_enter Tryz.func27, Tryz.ntmps27
    go_wp2_with fail
    refine (HG.out ⟨K, 0, 0⟩).mono ?_
    rintro x w1 ⟨rfl, hp, ho⟩
    have HP1 := hide hp
    have HO1 := hide ho
    clear hp ho c1
    go_wp2_with fail
    refine bodyPost_end (results_none rfl _ _ _) rfl ?_
    exact ⟨rfl, HP1.out, HO1.out⟩
/-- The key that ends what it looks for. -/
def Pn.blw (P : Pn) : ByteArray := if P.call = 5 then P.tok else P.key ++ ⟨#[0]⟩
theorem belowP_any (w : World) (Z : Nat → Prop) (p : Nat) (P : Pn) (h : Pm w Z p P) (hk : P.key.size ≤ 24) :
    Calls Tryz.prog 94 #[.pointer (some ⟨p, 0, none⟩)] w fun e w' => e = .returned (.string P.blw) ∧ w' = w := by
  have c0 := h.cb.c 0 _ rfl
  have c1 := h.cb.c 1 _ rfl
  have c2 := h.cb.c 2 _ rfl
  have hk2 : ¬ 9223372036854775807 < P.key.size + 1 := by omega
  clear h hk
  unfold Pn.blw
  by_cases hc : P.call = 5
  · have hb : (P.call == 5) = true := by simp [hc]
    rw [if_pos hc]
    clear hc
    go_enter Tryz.func94, Tryz.ntmps94
    go_wp2_with fail
    go_ret
    exact ⟨rfl, rfl⟩
  · have hb : (P.call == 5) = false := by simp [hc]
    rw [if_neg hc]
    clear hc
    go_enter Tryz.func94, Tryz.ntmps94
    go_wp2_with fail
    go_ret
    exact ⟨rfl, rfl⟩
/-- It has got its key, or not, or an error. -/
def Pn.lck (P : Pn) (got : Bool) (e : Int) : Pn := if P.wk = 1 then (if e = 0 then (if got = true then P.lks else P) else P.fl e) else P
set_option maxRecDepth 100000 in
theorem Lock_any (w : World) (Z : Nat → Prop) (p : Nat) (P : Pn) (h : Pm w Z p P) (g : Bool) (e : Int) :
    Calls Tryz.prog 17 #[.pointer (some ⟨p, 0, none⟩), .bool g, .int .i64 e] w fun x w' => x = .returned (.tuple #[]) ∧ Pm w' Z p (P.lck g e) ∧ Only (fun k => k = p) w w' := by
  have HH := hide h
  have HW := hide (wants_any w Z p P h 1)
  have HF := hide (Fail_any w Z p P h e)
  have HL := hide (looks_any w Z p P h)
  clear h
  unfold Pn.lck
  by_cases hk : P.wk = 1
  · have hb : (P.wk == 1) = true := by simp [hk]
    simp only [if_pos hk, hb] at HW ⊢
    clear hb hk
    by_cases he : e = 0
    · subst he
      rw [if_pos rfl]
      cases g
      · rw [if_neg (by decide)]
        go_enter Tryz.func17, Tryz.ntmps17
        go_wp2_with fail
        refine HW.out.mono ?_
        rintro x w1 ⟨rfl, rfl⟩
        go_wp2_with fail
        refine bodyPost_end (results_none rfl _ _ _) rfl ?_
        exact ⟨rfl, HH.out, Only.refl _ _⟩
      · rw [if_pos rfl]
        go_enter Tryz.func17, Tryz.ntmps17
        go_wp2_with fail
        refine HW.out.mono ?_
        rintro x w1 ⟨rfl, rfl⟩
        go_wp2_with fail
        refine HL.out.mono ?_
        rintro x w1 ⟨rfl, hp, ho⟩
        have HP := hide hp
        have HO := hide ho
        clear hp ho
        go_wp2_with fail
        refine bodyPost_end (results_none rfl _ _ _) rfl ?_
        exact ⟨rfl, HP.out, HO.out⟩
    · rw [if_neg he]
      have hb : (e != 0) = true := by simp [he]
      clear he
      go_enter Tryz.func17, Tryz.ntmps17
      go_wp2_with fail
      refine HW.out.mono ?_
      rintro x w1 ⟨rfl, rfl⟩
      go_wp2_with fail
      refine HF.out.mono ?_
      rintro x w1 ⟨rfl, hp, ho⟩
      have HP := hide hp
      have HO := hide ho
      clear hp ho
      go_wp2_with fail
      refine bodyPost_end (results_none rfl _ _ _) rfl ?_
      exact ⟨rfl, HP.out, HO.out⟩
  · have hb : (P.wk == 1) = false := by simp [hk]
    simp only [if_neg hk, hb] at HW ⊢
    clear hb hk
    go_enter Tryz.func17, Tryz.ntmps17
    go_wp2_with fail
    refine HW.out.mono ?_
    rintro x w1 ⟨rfl, rfl⟩
    go_wp2_with fail
    refine bodyPost_end (results_none rfl _ _ _) rfl ?_
    exact ⟨rfl, HH.out, Only.refl _ _⟩
theorem Lock_nil (w : World) (g : Bool) (e : Int) : Calls Tryz.prog 17 #[.pointer none, .bool g, .int .i64 e] w fun x w' => x = .returned (.tuple #[]) ∧ w' = w := by
  go_enter Tryz.func17, Tryz.ntmps17
  go_wp2_with fail
  refine (wants_nil w 1).mono ?_
  rintro x w1 ⟨rfl, rfl⟩
  go_wp2_with fail
  refine bodyPost_end (results_none rfl _ _ _) rfl ?_
  exact ⟨rfl, rfl⟩
/-- It is told a page with room. -/
def Pn.spc (P : Pn) (g : Int) : Pn := if P.wk = 2 then P.see g 36 else P
theorem Space_any (w : World) (Z : Nat → Prop) (p : Nat) (P : Pn) (h : Pm w Z p P) (g : Int) :
    Calls Tryz.prog 18 #[.pointer (some ⟨p, 0, none⟩), .int .i64 g] w fun x w' => x = .returned (.tuple #[]) ∧ Pm w' Z p (P.spc g) ∧ Only (fun k => k = p) w w' := by
  have hmf : ∀ (fn : Fn) (first cap : Array Value) (w : World), (Instr.makeFunc fn first cap).run Tryz.prog w = .ok (.func fn first cap) w := fun _ _ _ _ => rfl
  have HH := hide h
  have HW := hide (wants_any w Z p P h 2)
  have HS := hide (see_any w Z p P h g 36)
  clear h
  unfold Pn.spc
  by_cases hk : P.wk = 2
  · have hb : (P.wk == 2) = true := by simp [hk]
    simp only [if_pos hk, hb] at HW ⊢
    clear hb hk
    go_enter Tryz.func18, Tryz.ntmps18
    go_wp2_with fail
    refine HW.out.mono ?_
    rintro x w1 ⟨rfl, rfl⟩
    go_wp2_with fail
    refine HS.out.mono ?_
    rintro x w1 ⟨rfl, hp, ho⟩
    have HP := hide hp
    have HO := hide ho
    clear hp ho
    go_wp2_with fail
    refine bodyPost_end (results_none rfl _ _ _) rfl ?_
    exact ⟨rfl, HP.out, HO.out⟩
  · have hb : (P.wk == 2) = false := by simp [hk]
    simp only [if_neg hk, hb] at HW ⊢
    clear hb hk
    go_enter Tryz.func18, Tryz.ntmps18
    go_wp2_with fail
    refine HW.out.mono ?_
    rintro x w1 ⟨rfl, rfl⟩
    go_wp2_with fail
    refine bodyPost_end (results_none rfl _ _ _) rfl ?_
    exact ⟨rfl, HH.out, Only.refl _ _⟩
theorem Space_nil (w : World) (g : Int) : Calls Tryz.prog 18 #[.pointer none, .int .i64 g] w fun x w' => x = .returned (.tuple #[]) ∧ w' = w := by
  go_enter Tryz.func18, Tryz.ntmps18
  go_wp2_with fail
  refine (wants_nil w 2).mono ?_
  rintro x w1 ⟨rfl, rfl⟩
  go_wp2_with fail
  refine bodyPost_end (results_none rfl _ _ _) rfl ?_
  exact ⟨rfl, rfl⟩
theorem results_cell1 {fn : Func} {p : Tmp} {ty : TypeId} (h : fn.results = #[.cell p ty]) {tmps : Array Value} {w : World} {b : Nat} {v : Value} (hp : tmps.getD p undef = .pointer (some ⟨b, 0, none⟩)) (hP : (loadVar ty ⟨b, 0, none⟩).run Tryz.prog w = .ok v w) :
    (results fn tmps).run Tryz.prog w = .ok v w := by
  have e : (asAddr (tmps.getD p undef)).run Tryz.prog w = .ok ⟨b, 0, none⟩ w := by rw [hp]; rfl
  have key : (results fn tmps).run Tryz.prog w = ((asAddr (tmps.getD p undef)).run Tryz.prog w).andThen fun a w₁ => (loadVar ty a).run Tryz.prog w₁ := by
    simp only [results, h]
    simp [Sem.run_bind, Result.andThen]
  rw [key, e]
  simp only [Result.andThen, hP]
def outI (r : Hr) (c : Int) : Value := .tuple #[.agg r.cells, .int .i64 c]
theorem Tryz.sizeWant : (Tryz.prog.info? 32).map (·.size) = some 4 := by kernel_rfl
theorem Tryz.sizeReply : (Tryz.prog.info? 55).map (·.size) = some 4 := by kernel_rfl
theorem load_want {w : World} {b : Nat} {v0 v1 v2 v3 : Value} (h : Cb w b [v0, v1, v2, v3]) : (loadVar 32 ⟨b, 0, none⟩).run Tryz.prog w = .ok (.agg #[v0, v1, v2, v3]) w :=
  run_loadVar_mid (P := Tryz.prog) w b 0 32 [v0, v1, v2, v3] _ h.rg.range Tryz.underlying32 rfl Tryz.sizeWant
theorem load_reply {w : World} {b : Nat} {v0 v1 v2 v3 : Value} (h : Cb w b [v0, v1, v2, v3]) : (loadVar 55 ⟨b, 0, none⟩).run Tryz.prog w = .ok (.agg #[v0, v1, v2, v3]) w :=
  run_loadVar_mid (P := Tryz.prog) w b 0 55 [v0, v1, v2, v3] _ h.rg.range Tryz.underlying55 rfl Tryz.sizeReply
section
variable {ops : Array Oper} {rest : List Oper} {o : Oper} {a : Act} {w : World} {Q : Exit → Act → World → Prop}
/-- A struct is stored whole. -/
theorem wpList_put_cb (hg : o.guard = none) (ty : TypeId) (x y : Operand) (hop : o.op = .store ty x y) (b : Nat) (hx : a.eval x = .pointer (some ⟨b, 0, none⟩)) (cs ds : List Value) (hl : ds.length = cs.length) (hs : (Tryz.prog.info? ty).map (·.size) = some ds.length) (ho : ds.all Value.oneCell' = true) (hy : a.eval y = .agg ds.toArray) (hc : Cb w b cs)
    (h : ∀ W, Hid (Cb W b ds ∧ Only (fun k => k = b) w W) → wpList Tryz.prog ops Q rest (a.put o.dst undef) W) : wpList Tryz.prog ops Q (o :: rest) a w :=
  wpList_store_mid hg ty x y hop b 0 ds.toArray hx hy (by have := hc.rg.there; rw [← hl] at this; simpa using this) (by simpa using hs) (by simpa using ho) (h _ ⟨by
    have q := Cb.sets (c1 := []) (c2 := cs) (c3 := []) (by simpa using hc) ds hl
    simpa using q, only_setCells _ _ _ _⟩)
end
/-- What it wants. -/
def Pn.want (P : Pn) : Value := .agg #[.int .i64 P.wk, .string P.wkey, .int .i64 P.ws, .int .i64 P.wp]
theorem Want_any (w : World) (Z : Nat → Prop) (p : Nat) (P : Pn) (h : Pm w Z p P) :
    Calls Tryz.prog 10 #[.pointer (some ⟨p, 0, none⟩)] w fun e w' => e = .returned P.want ∧ Only (fun _ => False) w w' := by
  have h2 := h.more (onlyA w (.cells #[.int .i64 0, .string ⟨#[]⟩, .int .i64 0, .int .i64 0] 32))
  have c6 := h2.cb.c 6 _ rfl
  have c7 := h2.cb.c 7 _ rfl
  have c8 := h2.cb.c 8 _ rfl
  have c9 := h2.cb.c 9 _ rfl
  clear h h2
  unfold Pn.want
  go_enter Tryz.func10, Tryz.ntmps10
  go_wp2_with fail
  refine bodyPost_ret (results_cell1 rfl rfl (load_want (Cb.new w [.int .i64 P.wk, .string P.wkey, .int .i64 P.ws, .int .i64 P.wp] 32))) rfl ?_
  exact ⟨rfl, onlyA _ _⟩
theorem Want_nil (w : World) : Calls Tryz.prog 10 #[.pointer none] w fun e w' => e = .returned (.agg #[.int .i64 0, .string ⟨#[]⟩, .int .i64 0, .int .i64 0]) ∧ Only (fun _ => False) w w' := by
  go_enter Tryz.func10, Tryz.ntmps10
  go_wp2_with fail
  refine bodyPost_ret (results_cell1 rfl rfl (load_want (Cb.new w [.int .i64 0, .string ⟨#[]⟩, .int .i64 0, .int .i64 0] 32))) rfl ?_
  exact ⟨rfl, onlyA _ _⟩
/-- Rows of an answer that can be read. -/
def Rws (w : World) (ao : Option Addr) (L : List (ByteArray × ByteArray)) : Prop := 0 < L.length → ∃ g, ao = some ⟨g, 0, none⟩ ∧ g < w.heap.size ∧ ∀ j (h : j < L.length), w.cell? ⟨g, j * 2, none⟩ = some (.string L[j].1) ∧ w.cell? ⟨g, j * 2 + 1, none⟩ = some (.string L[j].2)
theorem RowsAt.rws {w : World} {b cp : Nat} {ao : Option Addr} {L : List (ByteArray × ByteArray)} (h : RowsAt w b (.slice ao L.length cp) L) : Rws w ao L := fun h0 => by
  obtain ⟨g, e, _, h2, _⟩ := h.at_ h0
  refine ⟨g, e, h2, fun j hj => ?_⟩
  obtain ⟨g2, e2, _, _, _, hc⟩ := h.at_ hj
  rw [e] at e2
  obtain rfl : g = g2 := by injection e2 with e2; injection e2
  exact ⟨hc 0 _ (by decide) rfl, hc 1 _ (by decide) rfl⟩
theorem Rws.kept {S : Nat → Prop} {w w' : World} {ao : Option Addr} {L : List (ByteArray × ByteArray)} (h : Rws w ao L) (ho : Only S w w') (hS : ∀ g, ao = some ⟨g, 0, none⟩ → ¬ S g) : Rws w' ao L := fun h0 => by
  obtain ⟨g, e, h2, hc⟩ := h h0
  exact ⟨g, e, Nat.lt_of_lt_of_le h2 ho.size, fun j hj => ⟨(ho.cell (p := ⟨g, j * 2, none⟩) h2 (hS g e)).trans (hc j hj).1, (ho.cell (p := ⟨g, j * 2 + 1, none⟩) h2 (hS g e)).trans (hc j hj).2⟩⟩
theorem Rws.more {w w' : World} {ao : Option Addr} {L : List (ByteArray × ByteArray)} (h : Rws w ao L) (ho : Only (fun _ => False) w w') : Rws w' ao L := h.kept ho (fun _ _ e => e)
theorem Rws.nil (w : World) (ao : Option Addr) : Rws w ao [] := fun h => absurd h (by simp)
theorem RowsAt.src {w : World} {b cp : Nat} {ao : Option Addr} {L : List (ByteArray × ByteArray)} (h : RowsAt w b (.slice ao L.length cp) L) : GSrc ERw w ao L.length L := by
  refine ⟨rfl, ?_⟩
  rcases h.head with ⟨e, e2, _⟩ | ⟨g, e, _, _, _, _, _, hc⟩
  · exact .inl ⟨e, by rw [e2]; rfl⟩
  · exact .inr ⟨_, e, fun j u hu => by rw [add_at, Nat.zero_add]; exact hc j u hu⟩
theorem rows_empty (w : World) : RowsAt (w.alloc (.cells #[] 80)) w.heap.size (.slice (some ⟨w.heap.size, 0, none⟩) 0 0) [] :=
  ⟨by simp, .inr ⟨w.heap.size, 0, #[], rfl, Nat.le_refl _, heap_alloc_new w _, Nat.le_refl _, Nat.zero_le _, by simp, by simp⟩⟩
theorem rows_clone {w : World} {ao : Option Addr} {cp : Nat} {L : List (ByteArray × ByteArray)} (h : RowsAt w 0 (.slice ao L.length cp) L) (hl : L.length ≤ 1000) (tr : TypeId) (c : Nat) :
    ∃ a2 c2 w', (Builtin.append_ #[53, 53] tr #[.slice (some ⟨w.heap.size, 0, none⟩) 0 0, .slice ao L.length c]).run Tryz.prog (w.alloc (.cells #[] 80)) = .ok (.slice a2 L.length c2) w' ∧ Rws w' a2 L ∧ (∀ g, a2 = some ⟨g, 0, none⟩ → w.heap.size ≤ g) ∧ Only (fun _ => False) w w' := by
  obtain ⟨v', w', h1, h2, h3, _⟩ := grow_append (w := w.alloc (.cells #[] 80)) (N := L) (ao := ao) (m := L.length) Tryz.underlying53 Tryz.infoRow rfl (rows_empty w) (RowsAt.src (GRow.more h (onlyA _ _))) (by simp; omega) (by unfold maxLen; simp; omega) (by simp) tr c
  rw [List.nil_append] at h2
  obtain ⟨a2, c2, rfl⟩ := h2.form
  refine ⟨a2, c2, w', h1, RowsAt.rws (GRow.base h2 (Nat.zero_le _)), fun g e => (h2.low g (by rw [e]; rfl)).1, ?_⟩
  refine (onlyA w _).trans (Only.grown (S := fun k => k = w.heap.size) h3 (fun b hb => by simp [Value.ownBlock] at hb; exact hb.symm)) (fun i hi e => by omega)
/-- Rows that are answered, as what is told of them has it. -/
def ClR (w w' : World) (e : Ending) (f : Value → Value) (L : List (ByteArray × ByteArray)) : Prop := ∃ a c, e = .returned (f (.slice a L.length c)) ∧ Rws w' a L ∧ (∀ g, a = some ⟨g, 0, none⟩ → w.heap.size ≤ g) ∧ Only (fun _ => False) w w'
set_option maxRecDepth 100000 in
set_option maxHeartbeats 800000 in
/-- Clone of rows. -/
theorem cloneR_any (w : World) (ao : Option Addr) (cp : Nat) (L : List (ByteArray × ByteArray)) (h : RowsAt w 0 (.slice ao L.length cp) L) (hl : L.length ≤ 1000) :
    Calls Tryz.prog 32 #[.slice ao L.length cp] w fun e w' => ClR w w' e (fun v => v) L := by
  obtain ⟨a2, c2, W, h1, h2, h4, h3⟩ := rows_clone h hl 53 cp
  have H2 := hide h2
  have H3 := hide h3
  have H4 := hide h4
  cases ao with
  | none =>
    have e : L = [] := by
      rcases h.head with ⟨_, e, _⟩ | ⟨g, e, _⟩
      · exact e
      · cases e
    subst e
    clear h hl h1 h2 h3 h4 H2 H3 H4
    have he : ∀ w', (binOp .eql 53 (.slice none 0 cp) (.slice none 0 0)).run Tryz.prog w' = .ok (.bool true) w' := fun _ => rfl
    go_enter Tryz.func32, Tryz.ntmps32
    go_wp2_with fail
    refine bodyPost_ret (a := _) (results_tmp rfl _ _ _) ?_ ?_
    · rfl
    exact ⟨none, 0, rfl, Rws.nil _ _, (fun _ q => by cases q), Only.refl _ _⟩
  | some a =>
    clear h hl h2 h3 h4
    obtain ⟨n, hn⟩ : ∃ n, L.length = n := ⟨_, rfl⟩
    rw [hn] at h1
    have HN := hide hn
    rw [hn]
    clear hn
    have he : ∀ w', (binOp .eql 53 (.slice (some a) n cp) (.slice none 0 0)).run Tryz.prog w' = .ok (.bool false) w' := fun _ => rfl
    go_enter Tryz.func32, Tryz.ntmps32
    have HR := hide h1
    clear h1
    go_wp2_with (at_builtin; go_must (refine Lib.wpList_append_run _ rfl _ _ _ _ rfl _ _ rfl rfl _ _ HR.out ?_))
    refine bodyPost_ret (results_tmp rfl _ _ _) rfl ?_
    exact ⟨a2, c2, by rw [HN.out]; rfl, H2.out, H4.out, H3.out⟩
/-- The reply. -/
def Pn.rep (P : Pn) (v : Value) : Value := .agg #[.int .i64 P.err, .bool P.found, .string P.val, v]
set_option maxRecDepth 100000 in
set_option maxHeartbeats 800000 in
theorem Reply_over (w : World) (Z : Nat → Prop) (p : Nat) (P : Pn) (h : Pm w Z p P) (hk : P.wk = 4) (hl : P.rows.length ≤ 1000) :
    Calls Tryz.prog 13 #[.pointer (some ⟨p, 0, none⟩)] w fun e w' => ClR w w' e P.rep P.rows := by
  have HH := hide (h.more (onlyA w (.cells #[.int .i64 0, .bool false, .string ⟨#[]⟩, .slice none 0 0] 55)))
  have HO := hide (onlyA w (.cells #[.int .i64 0, .bool false, .string ⟨#[]⟩, .slice none 0 0] 55))
  have HB := hide (Cb.new w [.int .i64 0, .bool false, .string ⟨#[]⟩, .slice none 0 0] 55)
  have HW : Hid (∀ W, Pm W Z p P → Calls Tryz.prog 30 #[.pointer (some ⟨p, 0, none⟩), .int .i64 4] W fun e w' => e = .returned (.bool true) ∧ w' = W) := fun W hW => by
    have := wants_any W Z p P hW 4
    rw [hk] at this
    exact this
  have HL := hide hl
  clear h hk hl
  unfold Pn.rep
  go_enter Tryz.func13, Tryz.ntmps13
  go_upto_region 1 with fail
  obtain ⟨W0, hW0⟩ : ∃ x, w.alloc (.cells #[.int .i64 0, .bool false, .string ⟨#[]⟩, .slice none 0 0] 55) = x := ⟨_, rfl⟩
  rw [hW0] at HH HO ⊢
  rw [show w.alloc (.cells [Value.int .i64 0, .bool false, .string ⟨#[]⟩, .slice none 0 0].toArray 55) = W0 from hW0] at HB
  clear hW0
  go_wp2_with fail
  refine (HW.out _ HH.out).mono ?_
  rintro e w1 ⟨rfl, h1⟩
  obtain rfl := h1.symm
  clear HW
  have r24 := HH.out.cb.c 24 _ rfl
  have r25 := HH.out.cb.c 25 _ rfl
  have r26 := HH.out.cb.c 26 _ rfl
  have r27 := HH.out.cb.c 27 _ rfl
  go_upto_region 4 with fail
  obtain ⟨W1, hW1⟩ : ∃ x, W0.alloc (.cells #[.int .i64 P.err, .bool P.found, .string P.val, .slice P.ra P.rows.length P.rc] 55) = x := ⟨_, rfl⟩
  have HB1 : Hid (Cb W1 W0.heap.size [.int .i64 P.err, .bool P.found, .string P.val, .slice P.ra P.rows.length P.rc]) := by
    rw [← hW1]; exact Cb.new W0 [.int .i64 P.err, .bool P.found, .string P.val, .slice P.ra P.rows.length P.rc] 55
  have HO1 : Hid (Only (fun _ => False) W0 W1) := by rw [← hW1]; exact onlyA _ _
  rw [hW1]
  clear hW1
  have HC1 := hide (HB.out.more HO1.out)
  have HR := hide (HH.out.more HO1.out).rows
  obtain ⟨b, hb⟩ : ∃ b, W0.heap.size = b := ⟨_, rfl⟩
  rw [hb] at HB1 ⊢
  have HSZ : Hid (w.heap.size < b) := by rw [← hb]; exact HB.out.lt
  have HBL : Hid (b < W1.heap.size) := HB1.out.lt
  clear hb r24 r25 r26 r27 HH
  have c3 := HB1.out.c 3 _ rfl
  have f3 := HB1.out.f 3
  go_wp2_with fail
  refine (cloneR_any W1 P.ra P.rc P.rows HR.out HL.out).mono ?_
  rintro e W2 ⟨a, c, rfl, hr, hn, ho⟩
  have HNE := hide hn
  clear hn
  have HR2 := hide hr
  have HO2 := hide ho
  have HB2 := hide (HB1.out.more ho)
  have HC2 := hide (HC1.out.more ho)
  clear hr ho c3 f3 HB1 HC1
  have c0 := HB2.out.c 0 _ rfl
  have c1 := HB2.out.c 1 _ rfl
  have c2 := HB2.out.c 2 _ rfl
  have c3 := HB2.out.c 3 _ rfl
  have f3 := HB2.out.f 3
  have HC3 := hide (HC2.out.kept (Only.put W2 b 3 (.slice a P.rows.length c)) (fun q => by have := HSZ.out; omega))
  go_wp2_with (refine wpList_put_cb rfl 55 (.tmp 2) (.tmp 16) rfl w.heap.size rfl [.int .i64 0, .bool false, .string ⟨#[]⟩, .slice none 0 0] [.int .i64 P.err, .bool P.found, .string P.val, .slice a P.rows.length c] rfl Tryz.sizeReply rfl rfl HC3.out ?_; intro W9 HW9; go_frame)
  refine bodyPost_ret (results_cell1 rfl rfl (load_reply HW9.out.1)) rfl ?_
  have HO3 := (o2 (o2 HO.out HO1.out) HO2.out)
  have HO4 : Only (fun k => k = b) W2 (W2.setCell ⟨b, 3, none⟩ (.slice a P.rows.length c)) := Only.put _ _ _ _
  have hsz := HSZ.out
  have hb1 := HBL.out
  refine ⟨a, c, rfl, (HR2.out.kept HO4 (fun g e q => by have := HNE.out g e; omega)).kept HW9.out.2 (fun g e q => by have := HNE.out g e; omega), fun g e => by have := HNE.out g e; omega, (HO3.trans HO4 (fun i hi e => by omega)).trans HW9.out.2 (fun i hi e => by omega)⟩
/-- A reply that is known is what is answered. -/
def Pn.fin (P : Pn) : Pn := Pn.over P.err P.found P.val P.ra P.rows P.rc
theorem fin_any (w : World) (Z : Nat → Prop) (p : Nat) (P : Pn) (h : Pm w Z p P) :
    Calls Tryz.prog 33 #[.pointer (some ⟨p, 0, none⟩), .agg #[.int .i64 P.err, .bool P.found, .string P.val, .slice P.ra P.rows.length P.rc]] w fun e w' => e = .returned (.tuple #[]) ∧ Pm w' Z p P.fin ∧ Only (fun k => k = p) w w' :=
  end_any w Z p P h P.err P.found P.val P.ra P.rows P.rc h.rows h.rz
/-- The version that it lays. -/
def Pn.tu (P : Pn) : Tu := ⟨P.own, 0, false, P.key, P.value⟩
theorem Tryz.sizeTup : (Tryz.prog.info? 78).map (·.size) = some 5 := by kernel_rfl
theorem load_tup {w : World} {b : Nat} {v0 v1 v2 v3 v4 : Value} (h : Cb w b [v0, v1, v2, v3, v4]) : (loadVar 78 ⟨b, 0, none⟩).run Tryz.prog w = .ok (.agg #[v0, v1, v2, v3, v4]) w :=
  run_loadVar_mid (P := Tryz.prog) w b 0 78 [v0, v1, v2, v3, v4] _ h.rg.range Tryz.underlying78 rfl Tryz.sizeTup
set_option maxRecDepth 100000 in
set_option maxHeartbeats 800000 in
theorem version_p (w : World) (Z : Nat → Prop) (p : Nat) (P : Pn) (h : Pm w Z p P) :
    Calls Tryz.prog 59 #[.pointer (some ⟨p, 0, none⟩)] w fun e w' => e = .returned P.tu.agg ∧ Only (fun _ => False) w w' := by
  have HO := hide (onlyA w (.cells #[.int .i64 0, .int .i64 0, .bool false, .string ⟨#[]⟩, .string ⟨#[]⟩] 78))
  have HB := hide (Cb.new w [.int .i64 0, .int .i64 0, .bool false, .string ⟨#[]⟩, .string ⟨#[]⟩] 78)
  have HH := hide (h.more HO.out)
  unfold Pn.tu Tu.agg
  clear h
  go_enter Tryz.func59, Tryz.ntmps59
  go_upto_region 1 with fail
  obtain ⟨W0, hW0⟩ : ∃ x, w.alloc (.cells #[.int .i64 0, .int .i64 0, .bool false, .string ⟨#[]⟩, .string ⟨#[]⟩] 78) = x := ⟨_, rfl⟩
  rw [hW0] at HO HH ⊢
  rw [show w.alloc (.cells [Value.int .i64 0, .int .i64 0, .bool false, .string ⟨#[]⟩, .string ⟨#[]⟩].toArray 78) = W0 from hW0] at HB
  clear hW0
  have c1 := HH.out.cb.c 1 _ rfl
  have c3 := HH.out.cb.c 3 _ rfl
  have c5 := HH.out.cb.c 5 _ rfl
  obtain ⟨b, hb⟩ : ∃ b, w.heap.size = b := ⟨_, rfl⟩
  rw [hb] at HB ⊢
  have HW : Hid (w.heap.size = b) := hb
  clear hb HH
  have d0 := HB.out.c 0 _ rfl
  have d1 := HB.out.c 1 _ rfl
  have d2 := HB.out.c 2 _ rfl
  have d3 := HB.out.c 3 _ rfl
  have d4 := HB.out.c 4 _ rfl
  have f0 := HB.out.f 0
  have f1 := HB.out.f 1
  have f2 := HB.out.f 2
  have f3 := HB.out.f 3
  have f4 := HB.out.f 4
  go_region
  go_wp2_with fail
  have HP := (((((Only.put W0 b 0 (.int .i64 P.own)).puts 1 (.int .i64 0)).puts 2 (.bool false)).puts 3 (.string P.key)).puts 4 (.string P.value))
  refine bodyPost_ret (results_cell1 rfl rfl (load_tup ((((((HB.out.set 0 (.int .i64 P.own)).set 1 (.int .i64 0)).set 2 (.bool false)).set 3 (.string P.key)).set 4 (.string P.value)).more (Only.drew _ _)))) rfl ?_
  exact ⟨rfl, o2 (HO.out.trans HP (fun i hi e => by have := HW.out; omega)) (Only.drew _ _)⟩
/-- It wants room. -/
def Pn.wsp (P : Pn) : Pn := { P with wk := 2, wkey := ⟨#[]⟩, ws := ((str P.tu.out).size : Int), wp := 0 }
set_option maxRecDepth 100000 in
set_option maxHeartbeats 800000 in
theorem wantSpace_any (w : World) (Z : Nat → Prop) (p : Nat) (P : Pn) (h : Pm w Z p P) (ho : I64 P.own) :
    Calls Tryz.prog 62 #[.pointer (some ⟨p, 0, none⟩)] w fun e w' => e = .returned (.tuple #[]) ∧ Pm w' Z p P.wsp ∧ Only (fun k => k = p) w w' := by
  have HH := hide h
  have HV := hide (version_p w Z p P h)
  have HE : Hid (∀ W, Calls Tryz.prog 45 #[P.tu.agg] W fun e w' => e = .returned (.tuple #[.string (str P.tu.out), .int .i64 P.tu.err]) ∧ Only (fun _ => False) W w') := fun W => uencode_any P.tu W ho (by unfold Pn.tu; simp only; omega)
  unfold Pn.wsp
  obtain ⟨S, hS⟩ : ∃ S, str P.tu.out = S := ⟨_, rfl⟩
  obtain ⟨T, hT⟩ : ∃ T, P.tu.agg = T := ⟨_, rfl⟩
  obtain ⟨X, hX⟩ : ∃ X, P.tu.err = X := ⟨_, rfl⟩
  rw [hS] at HE ⊢
  rw [hT, hX] at HE
  rw [hT] at HV
  clear h ho hS hT hX
  go_enter Tryz.func62, Tryz.ntmps62
  go_wp2_with fail
  refine HV.out.mono ?_
  rintro e w1 ⟨rfl, ho1⟩
  have HO1 := hide ho1
  have HH1 := hide (HH.out.more ho1)
  clear ho1 HV HH
  go_wp2_with fail
  refine (HE.out _).mono ?_
  rintro e w2 ⟨rfl, ho1⟩
  have HO2 := hide (o2 HO1.out ho1)
  have HH2 := hide (HH1.out.more ho1)
  clear ho1 HE HH1 HO1
  have c6 := HH2.out.cb.c 6 _ rfl
  have c7 := HH2.out.cb.c 7 _ rfl
  have c8 := HH2.out.cb.c 8 _ rfl
  have c9 := HH2.out.cb.c 9 _ rfl
  have f6 := HH2.out.cb.f 6
  have f7 := HH2.out.cb.f 7
  have f8 := HH2.out.cb.f 8
  have f9 := HH2.out.cb.f 9
  go_wp2_with fail
  refine bodyPost_end (results_none rfl _ _ _) rfl ?_
  have HP := ((((Only.put w2 p 6 (.int .i64 2)).puts 7 (.string ⟨#[]⟩)).puts 8 (.int .i64 (S.size : Int))).puts 9 (.int .i64 0))
  exact ⟨rfl, HH2.out.mod HP ((((HH2.out.cb.set 6 _).set 7 _).set 8 _).set 9 _) ⟨rfl, rfl, rfl⟩ ⟨rfl, rfl⟩, Op.none HO2.out HP⟩
/-- What follows when the version that was there is ended, or none was. -/
def Pn.gon (P : Pn) : Pn := if P.call = 4 then P.fin else P.wsp
theorem goOn_any (w : World) (Z : Nat → Prop) (p : Nat) (P : Pn) (h : Pm w Z p P) (ho : I64 P.own) :
    Calls Tryz.prog 165 #[.pointer (some ⟨p, 0, none⟩)] w fun e w' => e = .returned (.tuple #[]) ∧ Pm w' Z p P.gon ∧ Only (fun k => k = p) w w' := by
  have HF := hide (fin_any w Z p P h)
  have HS := hide (wantSpace_any w Z p P h ho)
  have c0 := h.cb.c 0 _ rfl
  have c24 := h.cb.c 24 _ rfl
  have c25 := h.cb.c 25 _ rfl
  have c26 := h.cb.c 26 _ rfl
  have c27 := h.cb.c 27 _ rfl
  unfold Pn.gon
  clear h ho
  by_cases hc : P.call = 4
  · have hb : (P.call == 4) = true := by simp [hc]
    rw [if_pos hc]
    clear hc
    go_enter Tryz.func165, Tryz.ntmps165
    go_wp2_with fail
    refine HF.out.mono ?_
    rintro x w1 ⟨rfl, hp, ho⟩
    have HP := hide hp
    have HO := hide ho
    clear hp ho c0 c24 c25 c26 c27
    go_wp2_with fail
    refine bodyPost_ret (results_none rfl _ _ _) rfl ?_
    exact ⟨rfl, HP.out, HO.out⟩
  · have hb : (P.call == 4) = false := by simp [hc]
    rw [if_neg hc]
    clear hc
    go_enter Tryz.func165, Tryz.ntmps165
    go_wp2_with fail
    refine HS.out.mono ?_
    rintro x w1 ⟨rfl, hp, ho⟩
    have HP := hide hp
    have HO := hide ho
    clear hp ho c0 c24 c25 c26 c27
    go_wp2_with fail
    refine bodyPost_end (results_none rfl _ _ _) rfl ?_
    exact ⟨rfl, HP.out, HO.out⟩
/-- Nothing more is to be looked at. -/
def Pn.lkd (P : Pn) : Pn := if P.chg = true then (if P.found = true then P.see P.old.page 164 else P.gon) else P.fin
theorem looked_any (w : World) (Z : Nat → Prop) (p : Nat) (P : Pn) (h : Pm w Z p P) (ho : I64 P.own) :
    Calls Tryz.prog 136 #[.pointer (some ⟨p, 0, none⟩)] w fun e w' => e = .returned (.tuple #[]) ∧ Pm w' Z p P.lkd ∧ Only (fun k => k = p) w w' := by
  have hmf : ∀ (fn : Fn) (first cap : Array Value) (w : World), (Instr.makeFunc fn first cap).run Tryz.prog w = .ok (.func fn first cap) w := fun _ _ _ _ => rfl
  have HC := hide (changes_any w Z p P h)
  have HF := hide (fin_any w Z p P h)
  have HG := hide (goOn_any w Z p P h ho)
  have HM := hide (see_any w Z p P h P.old.page 164)
  have c21 := h.cb.c 21 _ rfl
  have c24 := h.cb.c 24 _ rfl
  have c25 := h.cb.c 25 _ rfl
  have c26 := h.cb.c 26 _ rfl
  have c27 := h.cb.c 27 _ rfl
  unfold Pn.lkd
  clear h ho
  cases hc : P.chg
  · rw [hc] at HC
    rw [if_neg (by decide)]
    clear hc
    go_enter Tryz.func136, Tryz.ntmps136
    go_wp2_with fail
    refine HC.out.mono ?_
    rintro x w1 ⟨rfl, rfl⟩
    go_wp2_with fail
    refine HF.out.mono ?_
    rintro x w1 ⟨rfl, hp, ho⟩
    have HP := hide hp
    have HO := hide ho
    clear hp ho c21 c24 c25 c26 c27
    go_wp2_with fail
    refine bodyPost_end (results_none rfl _ _ _) rfl ?_
    exact ⟨rfl, HP.out, HO.out⟩
  · rw [hc] at HC
    rw [if_pos rfl]
    clear hc
    cases hf : P.found
    · rw [hf] at c25
      rw [if_neg (by decide)]
      clear hf
      go_enter Tryz.func136, Tryz.ntmps136
      go_wp2_with fail
      refine HC.out.mono ?_
      rintro x w1 ⟨rfl, rfl⟩
      go_wp2_with fail
      refine HG.out.mono ?_
      rintro x w1 ⟨rfl, hp, ho⟩
      have HP := hide hp
      have HO := hide ho
      clear hp ho c21 c24 c25 c26 c27
      go_wp2_with fail
      refine bodyPost_end (results_none rfl _ _ _) rfl ?_
      exact ⟨rfl, HP.out, HO.out⟩
    · rw [hf] at c25
      rw [if_pos rfl]
      clear hf
      go_enter Tryz.func136, Tryz.ntmps136
      go_wp2_with fail
      refine HC.out.mono ?_
      rintro x w1 ⟨rfl, rfl⟩
      go_wp2_with fail
      refine HM.out.mono ?_
      rintro x w1 ⟨rfl, hp, ho⟩
      have HP := hide hp
      have HO := hide ho
      clear hp ho c21 c24 c25 c26 c27
      go_wp2_with fail
      refine bodyPost_end (results_none rfl _ _ _) rfl ?_
      exact ⟨rfl, HP.out, HO.out⟩
/-- It looks on. -/
def Pn.lko (P : Pn) : Pn := match P.hits with | e :: _ => P.see e.page 135 | [] => if P.more = true then P.see P.right 51 else P.lkd
set_option maxRecDepth 100000 in
set_option maxHeartbeats 800000 in
theorem lookOn_any (w : World) (Z : Nat → Prop) (p : Nat) (P : Pn) (h : Pm w Z p P) (ho : I64 P.own) (hl : P.hits.length ≤ 1000000) :
    Calls Tryz.prog 95 #[.pointer (some ⟨p, 0, none⟩)] w fun e w' => e = .returned (.tuple #[]) ∧ Pm w' Z p P.lko ∧ Only (fun k => k = p) w w' := by
  have hmf : ∀ (fn : Fn) (first cap : Array Value) (w : World), (Instr.makeFunc fn first cap).run Tryz.prog w = .ok (.func fn first cap) w := fun _ _ _ _ => rfl
  have c17 := h.cb.c 17 _ rfl
  have c18 := h.cb.c 18 _ rfl
  have c19 := h.cb.c 19 _ rfl
  have HL := hide (looked_any w Z p P h ho)
  unfold Pn.lko
  cases hh : P.hits with
  | nil =>
    rw [hh] at c17
    have HT := hide (see_any w Z p P h P.right 51)
    simp only []
    clear h ho hh
    cases hm : P.more
    · rw [hm] at c18
      rw [if_neg (by decide)]
      clear hm
      go_enter Tryz.func95, Tryz.ntmps95
      go_wp2_with fail
      refine HL.out.mono ?_
      rintro x w1 ⟨rfl, hp, ho⟩
      have HP := hide hp
      have HO := hide ho
      clear hp ho c17 c18 c19
      go_wp2_with fail
      refine bodyPost_end (results_none rfl _ _ _) rfl ?_
      exact ⟨rfl, HP.out, HO.out⟩
    · rw [hm] at c18
      rw [if_pos rfl]
      clear hm
      go_enter Tryz.func95, Tryz.ntmps95
      go_wp2_with fail
      refine HT.out.mono ?_
      rintro x w1 ⟨rfl, hp, ho⟩
      have HP := hide hp
      have HO := hide ho
      clear hp ho c17 c18 c19
      go_wp2_with fail
      refine bodyPost_end (results_none rfl _ _ _) rfl ?_
      exact ⟨rfl, HP.out, HO.out⟩
  | cons e es =>
    have HT := hide (see_any w Z p P h e.page 135)
    obtain ⟨B, hB, _⟩ := h.hits
    rw [hh] at hB
    obtain ⟨o, ho1, ho2⟩ := hB.at_ (by simp)
    have q := ho2 0 (by simp)
    obtain ⟨q0, q1, q2⟩ := q
    have hn : ¬ P.hits.length < 1 := by rw [hh]; simp
    rw [ho1] at c17
    simp only []
    obtain ⟨n, hn2⟩ : ∃ n, P.hits.length = n := ⟨_, rfl⟩
    rw [hn2] at c17 hl hn
    clear h ho hh hB ho1 ho2 hn2
    go_enter Tryz.func95, Tryz.ntmps95
    go_wp2_with fail
    refine HT.out.mono ?_
    rintro x w1 ⟨rfl, hp, ho⟩
    have HP := hide hp
    have HO := hide ho
    clear hp ho c17 c18 c19 q0 q1 q2
    go_wp2_with fail
    refine bodyPost_end (results_none rfl _ _ _) rfl ?_
    exact ⟨rfl, HP.out, HO.out⟩
end Go.Proofs.YtajjakljheafjaaGreat
