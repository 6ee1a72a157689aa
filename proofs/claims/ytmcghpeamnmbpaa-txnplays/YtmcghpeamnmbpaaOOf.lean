/- What Of and End do. -/
import Derived.Test.YtmcghpeamnmbpaaOOut
namespace Go.Proofs.Ytmcghpeamnmbpaa
open Go.RowKit Go.Maps

/-- A transaction as a value, its list at ao. -/
def txv (x : Tx) (ao : Option Addr) (cp : Nat) : Value := .agg #[.int .i64 x.nx, .slice ao x.act.length cp, .int .i64 x.xid, .int .i64 x.fst, .int .i64 x.lst, .int .i64 x.und]
theorem results_tx {fn : Func} {p u : Tmp} (h : fn.results = #[.cell p 37, .tmp u]) {tmps : Array Value} {w : World} {b : Nat} {v0 v1 v2 v3 v4 v5 : Value} (hp : tmps.getD p undef = .pointer (some ⟨b, 0, none⟩)) (hP : Cb w b [v0, v1, v2, v3, v4, v5]) :
    (results fn tmps).run Try.prog w = .ok (.tuple #[.agg #[v0, v1, v2, v3, v4, v5], tmps.getD u undef]) w := by
  have e : (asAddr (.pointer (some ⟨b, 0, none⟩))).run Try.prog w = .ok ⟨b, 0, none⟩ w := rfl
  rw [results_cell_tmp h, hp, e]
  simp only [Result.andThen, load_tx hP]
theorem zero_cb (w : World) : Cb (w.alloc (.cells #[.int .i64 0, .slice none 0 0, .int .i64 0, .int .i64 0, .int .i64 0, .int .i64 0] 37)) w.heap.size [.int .i64 0, .slice none 0 0, .int .i64 0, .int .i64 0, .int .i64 0, .int .i64 0] := Cb.new w _ 37
/-- What is answered of no transaction: e, the world behind the walk. -/
theorem six_only (w W : World) (hW : Only (fun _ => False) w W) (v0 v1 v2 v3 v4 v5 : Value) : Only (fun _ => False) w ((((((W.setCell ⟨w.heap.size, 0, none⟩ v0).setCell ⟨w.heap.size, 1, none⟩ v1).setCell ⟨w.heap.size, 2, none⟩ v2).setCell ⟨w.heap.size, 3, none⟩ v3).setCell ⟨w.heap.size, 4, none⟩ v4).setCell ⟨w.heap.size, 5, none⟩ v5) :=
  hW.trans (Only.six W w.heap.size v0 v1 v2 v3 v4 v5) (fun i hi e => by omega)
set_option maxRecDepth 100000 in
theorem of_nil (w : World) (a : Int) : Calls Try.prog 19 #[.pointer none, .int .i64 a] w fun e w' => e = .returned (.tuple #[txv Tx.zero none 0, .bool false]) ∧ Only (fun _ => False) w w' := by
  have HZ := hide (zero_cb w)
  have HO := hide (onlyA w #[.int .i64 0, .slice none 0 0, .int .i64 0, .int .i64 0, .int .i64 0, .int .i64 0] 37)
  go_enter Try.func19, Try.ntmps19
  go_wp2_with fail
  refine (find_nil _ a).mono ?_
  rintro e w1 ⟨rfl, rfl⟩
  go_wp2_with fail
  refine bodyPost_ret (results_tx rfl rfl HZ.out) rfl ?_
  exact ⟨rfl, HO.out⟩
set_option maxRecDepth 100000 in
theorem end_nil (w : World) (a : Int) : Calls Try.prog 16 #[.pointer none, .int .i64 a] w fun e w' => e = .returned (.tuple #[txv Tx.zero none 0, .int .i64 2]) ∧ Only (fun _ => False) w w' := by
  have HZ := hide (zero_cb w)
  have HO := hide (onlyA w #[.int .i64 0, .slice none 0 0, .int .i64 0, .int .i64 0, .int .i64 0, .int .i64 0] 37)
  go_enter Try.func16, Try.ntmps16
  go_wp2_with fail
  refine (find_nil _ a).mono ?_
  rintro e w1 ⟨rfl, rfl⟩
  go_wp2_with fail
  refine bodyPost_ret (results_tx rfl rfl HZ.out) rfl ?_
  exact ⟨rfl, HO.out⟩
/-- What Of and End answer: a transaction, its list in new blocks, and a second value. -/
structure TxR (e : Ending) (w w' : World) (x : Tx) (v : Value) : Prop where
  ex : ∃ a2 c2, e = .returned (.tuple #[txv x a2 c2, v]) ∧ Nm w' (fun k => w.heap.size ≤ k) a2 x.act ∧ Fr w' w.heap.size a2 x.act
set_option maxRecDepth 100000 in
set_option maxHeartbeats 800000 in
theorem of_any (w : World) (Z : Nat → Prop) (t m n : Nat) (g : Gm) (f : Tt) (H : Tabg w Z t m n g f) (a : Int) (ha : N64 a) : Calls Try.prog 19 #[.pointer (some ⟨t, 0, none⟩), .int .i64 a] w fun e w' => TxR e w w' (ofT f a) (.bool (f a).isSome) ∧ Only (fun _ => False) w w' := by
  have HZ := hide (zero_cb w)
  have HO := hide (onlyA w #[.int .i64 0, .slice none 0 0, .int .i64 0, .int .i64 0, .int .i64 0, .int .i64 0] 37)
  unfold ofT
  cases hf : f a with
  | none =>
    have HC := hide (find_no _ Z t m n g f (H.more HO.out) a ha hf)
    clear H ha hf
    go_enter Try.func19, Try.ntmps19
    go_wp2_with fail
    refine HC.out.mono ?_
    rintro e w1 ⟨rfl, rfl⟩
    go_wp2_with fail
    refine bodyPost_ret (results_tx rfl rfl HZ.out) rfl ?_
    exact ⟨⟨none, 0, rfl, Nm.none _ _ _, Fr.none _ _⟩, HO.out⟩
  | some x =>
    obtain ⟨b, s, hg, hx, hn, _⟩ := H.yes hf
    have HC := hide (find_yes _ Z t m n g f (H.more HO.out) a ha b hg)
    have HQ := hide (out_any _ b _ s x (hx.kept HO.out id) (hn.more HO.out))
    clear H ha hf hg hx hn
    go_enter Try.func19, Try.ntmps19
    go_wp2_with fail
    refine HC.out.mono ?_
    rintro e w1 ⟨rfl, rfl⟩
    go_wp2_with fail
    refine HQ.out.mono ?_
    rintro e w2 ⟨a2, c2, rfl, hN, hn, hO⟩
    have HN := hide hN
    have Hn := hide hn
    have HO2 := hide (o2 HO.out hO)
    have hz := HZ.out.more hO
    have HZ2 := hide hz
    have z0 := hz.c 0 _ rfl
    have z1 := hz.c 1 _ rfl
    have z2 := hz.c 2 _ rfl
    have z3 := hz.c 3 _ rfl
    have z4 := hz.c 4 _ rfl
    have z5 := hz.c 5 _ rfl
    have y0 := hz.f 0
    have y1 := hz.f 1
    have y2 := hz.f 2
    have y3 := hz.f 3
    have y4 := hz.f 4
    have y5 := hz.f 5
    clear hN hn hO hz HQ HC
    go_wp2_with fail
    refine bodyPost_ret (results_tx rfl rfl (Cb.six HZ2.out _ _ _ _ _ _)) rfl ?_
    have hs1 : (w.alloc (.cells #[.int .i64 0, .slice none 0 0, .int .i64 0, .int .i64 0, .int .i64 0, .int .i64 0] 37)).heap.size = w.heap.size + 1 := by simp
    exact ⟨⟨a2, c2, rfl, (HN.out.kept (Only.six _ _ _ _ _ _ _ _) (fun k _ hk e => by omega)).mono (fun k _ hk => by omega), (Hn.out.kept (Only.six _ _ _ _ _ _ _ _) (fun k hk e => by omega)).mono (by omega)⟩, six_only w _ HO2.out _ _ _ _ _ _⟩
set_option maxRecDepth 100000 in
set_option maxHeartbeats 800000 in
theorem end_any (w : World) (Z : Nat → Prop) (t m n : Nat) (g : Gm) (f : Tt) (H : Tabg w Z t m n g f) (hZ : ∀ k, Z k → k < w.heap.size) (a : Int) (ha : N64 a) : Calls Try.prog 16 #[.pointer (some ⟨t, 0, none⟩), .int .i64 a] w fun e w' => TxR e w w' (ofT f a) (.int .i64 (endE f a)) ∧ Tab w' Z t m n (f.drop a) ∧ Only (fun k => k = m) w w' := by
  have HZ := hide (zero_cb w)
  have HO := hide (onlyA w #[.int .i64 0, .slice none 0 0, .int .i64 0, .int .i64 0, .int .i64 0, .int .i64 0] 37)
  unfold ofT endE
  cases hf : f a with
  | none =>
    have HC := hide (find_no _ Z t m n g f (H.more HO.out) a ha hf)
    rw [Tt.drop_none hf]
    have HH := hide H
    clear H ha hf
    go_enter Try.func16, Try.ntmps16
    go_wp2_with fail
    refine HC.out.mono ?_
    rintro e w1 ⟨rfl, rfl⟩
    go_wp2_with fail
    refine bodyPost_ret (results_tx rfl rfl HZ.out) rfl ?_
    have ho := HO.out
    exact ⟨⟨none, 0, rfl, Nm.none _ _ _, Fr.none _ _⟩, ⟨g, HH.out.more ho⟩, ho.mono (fun _ _ h => h.elim)⟩
  | some x =>
    obtain ⟨b, s, hg, hx, hn, hzb, hbt, hbm⟩ := H.yes hf
    have H1 := H.more HO.out
    have HC := hide (find_yes _ Z t m n g f H1 a ha b hg)
    have HZL := hide hZ
    obtain ⟨W2, hr, hop, ho⟩ := H1.own.cut ha
    have H2 := H1.cut hop ho
    have hx2 := (hx.kept HO.out id).kept ho hbm
    have hn2 := (hn.more HO.out).kept ho (fun k _ hk => hk.2.2.1)
    have HQ := hide (out_any _ b _ s x hx2 hn2)
    have HH2 := hide H2
    have HO1 : Hid (Only (fun k => k = m) w W2) := (HO.out.mono (fun _ _ h => h.elim)).trans ho (fun _ _ h => h)
    have hms := H.own.lt
    have HZ1 : Hid (Cb W2 w.heap.size [.int .i64 0, .slice none 0 0, .int .i64 0, .int .i64 0, .int .i64 0, .int .i64 0]) := HZ.out.kept ho (by omega)
    have HS1 : Hid (w.heap.size + 1 ≤ W2.heap.size) := by
      have := ho.size
      rw [World.size_alloc] at this
      exact this
    have c0 := H1.c0
    have HMS := hide hms
    obtain ⟨sz, hsz⟩ : ∃ z, w.heap.size = z := ⟨_, rfl⟩
    have HSZ := hide hsz
    obtain ⟨W1, hW1⟩ : ∃ x, w.alloc (.cells #[.int .i64 0, .slice none 0 0, .int .i64 0, .int .i64 0, .int .i64 0, .int .i64 0] 37) = x := ⟨_, rfl⟩
    rw [hW1] at hr c0 HC
    clear H H1 H2 hZ ha hf hg hx hn hx2 hn2 hop ho hms HO HZ hzb hbt hbm
    go_enter Try.func16, Try.ntmps16
    go_upto_region 1 with fail
    rw [hsz] at HZ1 HS1 HMS
    clear hW1 hsz
    go_wp2_with fail
    refine HC.out.mono ?_
    rintro e w1 ⟨rfl, rfl⟩
    go_wp2_with fail
    refine HQ.out.mono ?_
    rintro e w2 ⟨a2, c2, rfl, hN, hn, hO⟩
    have HN := hide hN
    have Hn := hide hn
    have HO2 := hide hO
    have hz := HZ1.out.more hO
    have HZ2 := hide hz
    have z0 := hz.c 0 _ rfl
    have z1 := hz.c 1 _ rfl
    have z2 := hz.c 2 _ rfl
    have z3 := hz.c 3 _ rfl
    have z4 := hz.c 4 _ rfl
    have z5 := hz.c 5 _ rfl
    have y0 := hz.f 0
    have y1 := hz.f 1
    have y2 := hz.f 2
    have y3 := hz.f 3
    have y4 := hz.f 4
    have y5 := hz.f 5
    clear hN hn hO hz HQ HC HZ1 hr c0
    go_wp2_with fail
    refine bodyPost_ret (results_tx rfl rfl (Cb.six HZ2.out _ _ _ _ _ _)) rfl ?_
    have hsz := HSZ.out
    have hs1 := HS1.out
    refine ⟨⟨a2, c2, rfl, (HN.out.kept (Only.six _ _ _ _ _ _ _ _) (fun k _ hk e => by omega)).mono (fun k _ hk => by omega), (Hn.out.kept (Only.six _ _ _ _ _ _ _ _) (fun k hk e => by omega)).mono (by omega)⟩, ⟨_, (HH2.out.more HO2.out).kept (Only.six _ _ _ _ _ _ _ _) (fun k _ hk e => ?_)⟩, (HO1.out.trans (HO2.out.mono (fun _ _ h => h.elim)) (fun _ _ h => h)).trans (Only.six _ _ _ _ _ _ _ _) (fun i hi e => by omega)⟩
    have := HZL.out k hk
    omega
end Go.Proofs.Ytmcghpeamnmbpaa
