/- The document's log: Append where there is no room, Flush. -/
import Derived.Test.YtebijheonkagfaaGreatDoorKVa
import Derived.Test.YtebijheonkagfaaGreatDoorKZb
import Derived.Test.YtebijheonkagfaaGreatDoorKQe
namespace Go.Proofs.YtebijheonkagfaaGreatDoor
open Go.RowKit
theorem Xl.stream {W : World} {x xd : Nat} {G : Lg} {base : Nat} {v8 : Value} (h : Xl W x xd G base v8) (E : List UInt8) (hok : (G.app E).Ok) (W1 : World) (v9 : Value) (hO : Only (fun k => some k = v8.ownBlock) (W.setCell ⟨x, 4, none⟩ (.string (str (G.stream ++ E)))) W1)
    (hp : W1.ownsRow base 3 1 v9 (G.places ++ [(G.tail : Int)]).length ((G.places ++ [(G.tail : Int)]).map (Value.int .i64))) (hb : v9.ownBlock ≠ some x) : Xl (W1.setCell ⟨x, 8, none⟩ v9) x xd (G.app E) base v9 ∧ Only (fun k => k = x ∨ some k = v8.ownBlock) W (W1.setCell ⟨x, 8, none⟩ v9) := by
  have h1 : Only (fun k => k = x) W (W.setCell ⟨x, 4, none⟩ (.string (str (G.stream ++ E)))) := Only.setCell (S := fun k => k = x) _ _ _ rfl; have h3 : Only (fun k => k = x) W1 (W1.setCell ⟨x, 8, none⟩ v9) := Only.setCell (S := fun k => k = x) _ _ _ rfl
  have hx : ¬ (some x = v8.ownBlock) := fun e => h.n2 e.symm
  have hl1 : x < (W.setCell ⟨x, 4, none⟩ (.string (str (G.stream ++ E)))).heap.size := Nat.lt_of_lt_of_le h.lt h1.size
  have k : ∀ (j : Nat) (v : Value), j ≠ 4 → j ≠ 8 → W.cell? ⟨x, j, none⟩ = some v → (W1.setCell ⟨x, 8, none⟩ v9).cell? ⟨x, j, none⟩ = some v := fun j v h4 h8 hc =>
    (World.cell?_setCell_other _ _ _ _ (by intro e; injection e with _ e; exact h8 e.symm)).trans ((hO.cell (p := ⟨x, j, none⟩) hl1 hx).trans ((World.cell?_setCell_other _ _ _ _ (by intro e; injection e with _ e; exact h4 e.symm)).trans hc))
  have hl2 : x < W1.heap.size := Nat.lt_of_lt_of_le hl1 hO.size; have c8 : ∃ u, W1.cell? ⟨x, 8, none⟩ = some u := ⟨v8, (hO.cell (p := ⟨x, 8, none⟩) hl1 hx).trans ((World.cell?_setCell_other _ _ _ _ (by intro e; injection e with _ e; cases e)).trans h.c8)⟩; obtain ⟨u, c8⟩ := c8; refine ⟨⟨k _ _ (by decide) (by decide) h.c0, k _ _ (by decide) (by decide) h.c1, k _ _ (by decide) (by decide) h.c2, k _ _ (by decide) (by decide) h.c3, ?_, k _ _ (by decide) (by decide) h.c5, k _ _ (by decide) (by decide) h.c6, k _ _ (by decide) (by decide) h.c7, World.cell?_setCell_same _ _ _ c8, ?_, ?_, ?_, hb, h.st, h.rs, ?_, hok⟩, ?_⟩
  · exact (World.cell?_setCell_other _ _ _ _ (by intro e; injection e with _ e; cases e)).trans ((hO.cell (p := ⟨x, 4, none⟩) hl1 hx).trans (World.cell?_setCell_same _ _ _ h.c4))
  · intro j
    rw [World.frozen?_setCell]
    exact (hO.frozen (p := ⟨x, j, none⟩) hl1 hx).trans (by rw [World.frozen?_setCell]; exact h.fz j)
  · exact Nat.lt_of_lt_of_le hl2 h3.size
  · exact own_only hp h3 (fun k e e2 => hb (by rw [e, e2]))
  · show G.tail + E.length = 1 + (G.stream ++ E).length
    rw [List.length_append, h.tl]
    omega
  · exact ((h1.mono (T := fun k => k = x ∨ some k = v8.ownBlock) (fun _ _ e => .inl e)).trans hO (fun _ _ e => .inr e)).trans h3 (fun _ _ e => .inl e)
set_option maxRecDepth 100000 in
set_option maxHeartbeats 3200000 in
theorem glappend_ok (w : World) (x xd : Nat) (G : Lg) (base : Nat) (v8 : Value) (h : Xl w x xd G base v8) (hbase : base ≤ w.heap.size) (hv : (nt.at_ G.tail).valid) (hroom : (nt.at_ G.tail).enc.length ≤ G.room) (hpl : G.places.length ≤ 1000000000) (hok : (G.app (nt.at_ G.tail).enc).Ok) :
    Calls Tryz.prog 16 #[.pointer (some ⟨x, 0, none⟩), .agg (nt.cells Loc.none)] w fun e w' =>
      e = .returned (.tuple #[.int .i64 (G.tail : Int), .int .i64 0]) ∧ ∃ v8', Xl w' x xd (G.app (nt.at_ G.tail).enc) base v8' ∧ Only (fun k => k = x ∨ some k = v8.ownBlock) w w' ∧ (v8'.ownBlock = v8.ownBlock ∨ ∃ g, v8'.ownBlock = some g ∧ w.heap.size ≤ g) := by
  have HX := hide h
  have HT : Hid (∀ W, Only (fun _ => False) w W → Calls Tryz.prog 61 #[.pointer (some ⟨x, 0, none⟩)] W fun e w' => e = .returned (.int .i64 (G.tail : Int)) ∧ w' = W.drew) := fun W hW => gltail_any W x xd G base v8 (h.more hW)
  have hQ : Calls Tryz.prog 62 #[.agg ((nt.at_ (G.tail : Int)).cells Loc.none)] (w.alloc (.cells ((nt.at_ (G.tail : Int)).cells Loc.none) 59)).drew fun e w' => e = .returned (.tuple #[.string (str (nt.at_ (G.tail : Int)).enc), .int .i64 0]) ∧ Only (fun _ => False) w w' :=
    (zencode_any _ _ Loc.none (((nt_at w).at_ _).go (o2 (onlyA w _) (Only.drew _ _)))).mono (fun e w' hx => ⟨hx.ok hv, o2 (o2 (onlyA w _) (Only.drew _ _)) hx.only⟩)
  have HQ := hide hQ; obtain ⟨E, hE⟩ : ∃ E, (nt.at_ (G.tail : Int)).enc = E := ⟨_, rfl⟩; rw [hE] at HQ hroom hok ⊢; obtain ⟨N, hN⟩ : ∃ N, str E = N := ⟨_, rfl⟩
  have hNs : N.size = E.length := by rw [← hN, str_size]
  rw [hN] at HQ; obtain ⟨S, hS⟩ : ∃ S, str G.stream = S := ⟨_, rfl⟩
  have hSs : S.size = G.stream.length := by rw [← hS, str_size]
  have HC : Hid (S ++ N = str (G.stream ++ E)) := by unfold Hid; rw [← hS, ← hN, str_cat]
  have hrm : (G.room : Int) = 54 * ((G.n : Int) - 2) - ((G.tail : Int) - 1) ∨ (G.room : Int) = 0 := by
    unfold Lg.room; have h4 := h.ok.n4; have ht := h.tl; rw [h.st, h.rs]
    omega
  have hE8 : 8 ≤ E.length := by rw [← hE, renc_len]; omega
  have i1 : ¬ 54 * ((G.n : Int) - 2) - ((G.tail : Int) - 1) < (N.size : Int) := by omega
  have y1 : S.size + N.size ≤ 9223372036854775807 := by
    have := h.ok.ln; have := h.ok.nb
    have : G.room ≤ 54 * 65536 := by unfold Lg.room; omega
    omega
  have HS4 : Hid (∀ W, Xl W x xd G base v8 → W.cell? ⟨x, 4, none⟩ = some (.string S)) := fun W hW => by rw [← hS]; exact hW.c4
  have HBA := hide hbase; have HPL := hide hpl; have HOK := hide hok; clear hQ hE hN hNs hS hSs hrm hE8 h hv hroom hbase hpl hok
  go_enter Tryz.func16, Tryz.ntmps16
  go_wp2_with fail
  refine (HT.out _ (onlyA _ _)).mono ?_; rintro e w1 ⟨rfl, rfl⟩
  go_wp2_with fail
  refine Calls.mono HQ.out ?_; rintro e w2 ⟨rfl, ho2⟩; have HX2 := hide (HX.out.more ho2); have HO2 := hide ho2; clear ho2
  go_wp2_with fail
  refine (glroom_any w2 x xd G base v8 HX2.out).mono ?_; rintro e w3 ⟨rfl, ho3⟩; have HX3 := hide (HX2.out.more ho3); have HO3 := hide (o2 HO2.out ho3); clear ho3; have c4 := HS4.out _ HX3.out; have f4 := HX3.out.fz 4; have f8 := HX3.out.fz 8; have c8 := HX3.out.c8; obtain ⟨a8, n8, k8, rfl⟩ := own_slice HX3.out.pl; obtain ⟨w4, hw4⟩ : ∃ x', w3.setCell ⟨x, 4, none⟩ (.string (S ++ N)) = x' := ⟨_, rfl⟩
  have ho4 : Only (fun k => k = x) w3 w4 := by rw [← hw4]; exact Only.setCell (S := fun k => k = x) _ _ _ rfl
  have pl4 := own_only HX3.out.pl ho4 (fun k e e2 => HX3.out.n2 (by rw [e, e2]))
  have hs4 : w4.heap.size = w3.heap.size := by rw [← hw4]; simp
  obtain ⟨v9, w5, hap, ow5, on5, bl5⟩ := append_place w4 54 base _ G.places pl4 (G.tail : Int) HPL.out (by rw [hs4]; exact Nat.le_trans HBA.out HO3.out.size) (w4.alloc (.cells #[.int .i64 (G.tail : Int)] 3)) (onlyA _ _) w4.heap.size (by simp); obtain ⟨a9, n9, k9, rfl⟩ := own_slice ow5; have R := hide hap; have OW := hide ow5; rw [← hw4, HC.out] at on5; have ON := hide on5; have BL := hide bl5
  have hlt4 : x < w4.heap.size := by rw [hs4]; exact HX3.out.lt
  have on5' : Only (fun k => some k = Value.ownBlock (.slice a8 n8 k8)) w4 w5 := by rw [← hw4, HC.out]; exact ON.out
  have e8 : w5.cell? ⟨x, 8, none⟩ = some (.slice a8 n8 k8) := (on5'.cell (p := ⟨x, 8, none⟩) hlt4 (fun e => HX3.out.n2 e.symm)).trans (by rw [← hw4]; exact (World.cell?_setCell_other _ _ _ _ (by intro e; injection e with _ e; cases e)).trans c8); have g8 : w5.frozen? ⟨x, 8, none⟩ = false := (on5'.frozen (p := ⟨x, 8, none⟩) hlt4 (fun e => HX3.out.n2 e.symm)).trans (by rw [← hw4, World.frozen?_setCell]; exact f8)
  have d8 : w4.cell? ⟨x, 8, none⟩ = some (.slice a8 n8 k8) := by rw [← hw4]; exact (World.cell?_setCell_other _ _ _ _ (by intro e; injection e with _ e; cases e)).trans c8
  have HFIN : Hid (Value.ownBlock (.slice a9 n9 k9) ≠ some x) := by
    intro e
    rcases BL.out with b | b
    · rw [b] at e
      exact HX3.out.n2 e
    · rw [b] at e
      injection e with e
      have : w4.heap.size < (w4.alloc (.cells #[.int .i64 (G.tail : Int)] 3)).heap.size := by simp
      omega
  have HS5 : Hid (w.heap.size ≤ (w4.alloc (.cells #[.int .i64 (G.tail : Int)] 3)).heap.size) := by
    have := HO3.out.size; unfold Hid; rw [World.size_alloc]
    omega
  clear hap ow5 on5 on5' bl5 ho4 pl4 hlt4 hs4
  go_upto_region 9 with fail
  clear c4 f4 c8 f8 hw4
  go_wp2_with (at_builtin; refine Lib.wpList_append_run _ rfl (.tmp 39) (.tmp 41) _ _ rfl _ _ rfl rfl _ _ R.out ?_)
  go_ret2
  obtain ⟨z1, z2⟩ := HX3.out.stream E HOK.out w5 _ ON.out OW.out HFIN.out; refine ⟨rfl, _, z1, ?_, ?_⟩
  · exact (HO3.out.mono (T := fun k => k = x ∨ some k = Value.ownBlock (.slice a8 n8 k8)) (fun _ _ e => e.elim)).trans z2 (fun _ _ e => e)
  · rcases BL.out with b | b
    · exact .inl b
    · exact .inr ⟨_, b, HS5.out⟩
set_option maxRecDepth 100000 in
set_option maxHeartbeats 3200000 in
theorem glappend_full (w : World) (x xd : Nat) (G : Lg) (base : Nat) (v8 : Value) (h : Xl w x xd G base v8) (hv : (nt.at_ G.tail).valid) (hroom : G.room < (nt.at_ G.tail).enc.length) :
    Calls Tryz.prog 16 #[.pointer (some ⟨x, 0, none⟩), .agg (nt.cells Loc.none)] w fun e w' => e = .returned (.tuple #[.int .i64 0, .int .i64 50]) ∧ Only (fun _ => False) w w' := by
  have HX := hide h
  have HT : Hid (∀ W, Only (fun _ => False) w W → Calls Tryz.prog 61 #[.pointer (some ⟨x, 0, none⟩)] W fun e w' => e = .returned (.int .i64 (G.tail : Int)) ∧ w' = W.drew) := fun W hW => gltail_any W x xd G base v8 (h.more hW)
  have hQ : Calls Tryz.prog 62 #[.agg ((nt.at_ (G.tail : Int)).cells Loc.none)] (w.alloc (.cells ((nt.at_ (G.tail : Int)).cells Loc.none) 59)).drew fun e w' => e = .returned (.tuple #[.string (str (nt.at_ (G.tail : Int)).enc), .int .i64 0]) ∧ Only (fun _ => False) w w' :=
    (zencode_any _ _ Loc.none (((nt_at w).at_ _).go (o2 (onlyA w _) (Only.drew _ _)))).mono (fun e w' hx => ⟨hx.ok hv, o2 (o2 (onlyA w _) (Only.drew _ _)) hx.only⟩)
  have HQ := hide hQ; obtain ⟨E, hE⟩ : ∃ E, (nt.at_ (G.tail : Int)).enc = E := ⟨_, rfl⟩; rw [hE] at HQ hroom; obtain ⟨N, hN⟩ : ∃ N, str E = N := ⟨_, rfl⟩
  have hNs : N.size = E.length := by rw [← hN, str_size]
  rw [hN] at HQ
  have i1 : 54 * ((G.n : Int) - 2) - ((G.tail : Int) - 1) < (N.size : Int) := by
    have h4 := h.ok.n4; have ht := h.tl; unfold Lg.room at hroom; rw [h.st, h.rs] at hroom
    omega
  clear hQ hE hN hNs h hv hroom
  go_enter Tryz.func16, Tryz.ntmps16
  go_wp2_with fail
  refine (HT.out _ (onlyA _ _)).mono ?_; rintro e w1 ⟨rfl, rfl⟩
  go_wp2_with fail
  refine Calls.mono HQ.out ?_; rintro e w2 ⟨rfl, ho2⟩; have HX2 := hide (HX.out.more ho2); have HO2 := hide ho2; clear ho2
  go_wp2_with fail
  refine (glroom_any w2 x xd G base v8 HX2.out).mono ?_; rintro e w3 ⟨rfl, ho3⟩; have HO3 := hide (o2 HO2.out ho3); clear ho3
  go_wp2_with fail
  go_ret2
  exact ⟨rfl, HO3.out⟩
structure Xw (W : World) (xd a b c ka kb kc x : Nat) (D : Dk) (G : Lg) (base : Nat) (v8 : Value) : Prop where
  dk : Xd W xd a b c ka kb kc D
  lg : Xl W x xd G base v8
  n1 : ¬ xown xd a b c x
  n2 : ∀ k, v8.ownBlock = some k → ¬ xown xd a b c k
theorem Xw.kept {S : Nat → Prop} {W W' : World} {xd a b c ka kb kc x : Nat} {D : Dk} {G : Lg} {base : Nat} {v8 : Value} (h : Xw W xd a b c ka kb kc x D G base v8) (ho : Only S W W') (h1 : ∀ k, xown xd a b c k → ¬ S k) (h2 : ¬ S x) (h3 : ∀ k, v8.ownBlock = some k → ¬ S k) : Xw W' xd a b c ka kb kc x D G base v8 :=
  ⟨h.dk.kept ho (h1 _ (.inl rfl)) (h1 _ (.inr (.inl rfl))) (h1 _ (.inr (.inr (.inl rfl)))) (h1 _ (.inr (.inr (.inr rfl)))), h.lg.kept ho h2 h3, h.n1, h.n2⟩
theorem Xw.more {W W' : World} {xd a b c ka kb kc x : Nat} {D : Dk} {G : Lg} {base : Nat} {v8 : Value} (h : Xw W xd a b c ka kb kc x D G base v8) (ho : Only (fun _ => False) W W') : Xw W' xd a b c ka kb kc x D G base v8 := h.kept ho (fun _ _ h => h) (fun h => h) (fun _ _ h => h)
theorem Xw.wrote {W W' : World} {xd a b c ka kb kc x : Nat} {D D' : Dk} {G : Lg} {base : Nat} {v8 : Value} (h : Xw W xd a b c ka kb kc x D G base v8) (ho : Only (xown xd a b c) W W') (hd : Xd W' xd a b c ka kb kc D') : Xw W' xd a b c ka kb kc x D' G base v8 :=
  ⟨hd, h.lg.kept ho h.n1 h.n2, h.n1, h.n2⟩
theorem Xw.last {W : World} {xd a b c ka kb kc x : Nat} {D : Dk} {G : Lg} {base : Nat} {v8 : Value} (h : Xw W xd a b c ka kb kc x D G base v8) (t : Nat) (ht : t ≤ G.tail) : Xw (W.setCell ⟨x, 6, none⟩ (.int .i64 (t : Int))) xd a b c ka kb kc x D { G with flushed := t } base v8 ∧ Only (fun k => k = x) W (W.setCell ⟨x, 6, none⟩ (.int .i64 (t : Int))) := by
  have ho : Only (fun k => k = x) W (W.setCell ⟨x, 6, none⟩ (.int .i64 (t : Int))) := Only.setCell (S := fun k => k = x) _ _ _ rfl
  have hn : ∀ k, xown xd a b c k → ¬ k = x := fun k hk e => h.n1 (e ▸ hk)
  have k : ∀ (j : Nat) (v : Value), j ≠ 6 → W.cell? ⟨x, j, none⟩ = some v → (W.setCell ⟨x, 6, none⟩ (.int .i64 (t : Int))).cell? ⟨x, j, none⟩ = some v := fun j v hj hc =>
    (World.cell?_setCell_other _ _ _ _ (by intro e; injection e with _ e; exact hj e.symm)).trans hc
  have l := h.lg; refine ⟨⟨h.dk.kept ho (hn _ (.inl rfl)) (hn _ (.inr (.inl rfl))) (hn _ (.inr (.inr (.inl rfl)))) (hn _ (.inr (.inr (.inr rfl)))), ⟨k _ _ (by decide) l.c0, k _ _ (by decide) l.c1, k _ _ (by decide) l.c2, k _ _ (by decide) l.c3, k _ _ (by decide) l.c4, k _ _ (by decide) l.c5, World.cell?_setCell_same _ _ _ l.c6, k _ _ (by decide) l.c7, k _ _ (by decide) l.c8, fun j => by rw [World.frozen?_setCell]; exact l.fz j, Nat.lt_of_lt_of_le l.lt ho.size, own_only l.pl ho (fun q e e2 => l.n2 (by rw [e, e2])), l.n2, l.st, l.rs, l.tl, ⟨l.ok.st, l.ok.tl, l.ok.big, ht, l.ok.n4, l.ok.nb, l.ok.fb, l.ok.rs, l.ok.ln⟩⟩, h.n1, h.n2⟩, ho⟩
set_option maxRecDepth 100000 in
set_option maxHeartbeats 3200000 in
theorem glflush_any (w : World) (xd a b c ka kb kc x : Nat) (D : Dk) (G : Lg) (base : Nat) (v8 : Value) (h : Xw w xd a b c ka kb kc x D G base v8) (at_ : Int) (hto : (G.flushed : Int) ≤ at_) (hf1 : 1 ≤ G.flushed) (htb : G.tail < 4294967295) :
    Calls Tryz.prog 97 #[.pointer (some ⟨x, 0, none⟩), .int .i64 at_] w fun e w' =>
      e = .returned (.int .i64 (G.fl D).2.1) ∧ Xw w' xd a b c ka kb kc x (G.fl D).1 { G with flushed := (G.fl D).2.2 } base v8 ∧ Only (fun k => xown xd a b c k ∨ k = x) w w' := by
  have HX := hide h; have HT := hide (gltail_any w x xd G base v8 h.lg)
  have i1 : ¬ at_ < (G.flushed : Int) := by omega
  have c6 := h.lg.c6; have hfl := h.lg.ok.fl; have htl := h.lg.tl; unfold Lg.fl
  by_cases he : G.flushed = G.tail
  · rw [if_pos he]
    have i2 : (G.flushed : Int) = (G.tail : Int) := by omega
    clear h hto he
    go_enter Tryz.func97, Tryz.ntmps97
    go_wp2_with fail
    refine HT.out.mono ?_; rintro e w1 ⟨rfl, rfl⟩
    go_wp2_with fail
    go_ret
    exact ⟨rfl, HX.out.more (Only.drew _ _), Only.drew _ _⟩
  · rw [if_neg he]
    have i2 : (G.flushed : Int) ≠ (G.tail : Int) := by omega
    obtain ⟨bf, hbf⟩ : ∃ b, (G.flushed - 1) / 54 = b := ⟨_, rfl⟩; obtain ⟨be, hbe⟩ : ∃ b, (G.tail - 2) / 54 = b := ⟨_, rfl⟩
    have hbb : bf ≤ be := by omega
    have e0 : ((G.flushed : Int) - 1).tdiv 54 = (bf : Int) := by
      rw [Int.tdiv_eq_ediv_of_nonneg (by omega)]
      omega
    have hend : ∀ k : Nat, (k : Int) * 54 + 1 < (G.tail : Int) ↔ k ≤ be := fun k => by omega
    obtain ⟨R, hR⟩ : ∃ R, G.lays bf (be + 1 - bf) D = R := ⟨_, rfl⟩
    have hF : G.flush D = if R.2 = 0 then (if R.1.sync.2 = 0 then (R.1.sync.1, 0, G.tail) else (R.1.sync.1, R.1.sync.2, G.flushed)) else (R.1, R.2, G.flushed) := by
      unfold Lg.flush; rw [hbf, hbe, hR]
    obtain ⟨F, hFF⟩ : ∃ F, G.flush D = F := ⟨_, rfl⟩; rw [hFF] at hF ⊢; have HF := hide hF; have HR := hide hR; have HEND := hide hend
    have HTB : Hid (be < 4294967290) := by unfold Hid; omega
    have HBL : Hid (∀ k, k ≤ be → 0 < (G.block k).length ∧ (G.block k).length ≤ 54 ∧ k * 54 ≤ G.stream.length) := fun k hk => by
      have e1 : k * 54 + 1 < G.tail := by omega
      unfold Lg.block Lg.b0; rw [h.lg.st]; simp only [List.length_take, List.length_drop]
      omega
    have HTL2 : Hid (True → (G.tail : Int) < 1099511627776 ∧ G.flushed ≤ G.tail) := fun _ => ⟨by omega, hfl⟩
    have E0 : Hid (True → ((G.flushed : Int) - 1).tdiv 54 = (bf : Int)) := fun _ => e0
    clear e0; clear h hto he hF hFF hR hbf hbe hend hfl htl
    go_enter Tryz.func97, Tryz.ntmps97
    go_wp2_with fail
    refine HT.out.mono ?_; rintro e w1 ⟨rfl, rfl⟩
    go_wp2_with fail
    · exfalso
      rename_i hq
      simp at hq
      omega
    have e1 : wrap64 ((wrap64 ((G.flushed : Int) - 1)).tdiv 54) = (bf : Int) := by
      have ht := HTL2.out trivial; have ht2 := HTB.out; have e2 : wrap64 ((G.flushed : Int) - 1) = (G.flushed : Int) - 1 := w64_id _ (by omega); rw [e2, E0.out trivial, w64_id _ (by omega)]
    have d1 : decide (at_ < (G.flushed : Int)) = false := decide_eq_false (by omega)
    have d2 : ((G.flushed : Int) == (G.tail : Int)) = false := by simpa using i2
    rw [e1, d1, d2, Bool.or_false]; clear e1 d1 d2 i1 i2 hf1 htb; obtain ⟨w1, hw1⟩ : ∃ w1, w.drew = w1 := ⟨_, rfl⟩
    have HX1 : Hid (Xw w1 xd a b c ka kb kc x D G base v8) := by unfold Hid; rw [← hw1]; exact HX.out.more (Only.drew _ _)
    have HO1 : Hid (Only (xown xd a b c) w w1) := by unfold Hid; rw [← hw1]; exact Only.drew _ _
    rw [hw1]; clear hw1 c6
    go_loopw [6] (fun i wr => ∃ (k : Nat) (E : Dk), bf ≤ k ∧ k ≤ be + 1 ∧ i = .int .i64 (k : Int) ∧ Hid (G.lays k (be + 1 - k) E = R) ∧ Hid (Xw wr xd a b c ka kb kc x E G base v8) ∧ Hid (Only (xown xd a b c) w wr)) (fun i _ => be + 1 - (intOf i).toNat)
    case atStart => exact ⟨bf, D, Nat.le_refl _, by omega, rfl, HR, HX1, HO1⟩
    case round =>
      obtain ⟨k, E, hk0, hk1, rfl, HRk, HXk, HOk⟩ := hrel
      have hkb : (k : Int) ≤ 4294967290 := by have := HTB.out; omega
      by_cases hlt : k ≤ be
      · have hcond : (k : Int) * 54 + 1 < (G.tail : Int) := (HEND.out k).2 hlt
        obtain ⟨b1, b2, b3⟩ := HBL.out k hlt
        have HST : Hid (G.lays k (be + 1 - k) E = if (G.lay1 k E).2 = 0 then G.lays (k + 1) (be + 1 - (k + 1)) (G.lay1 k E).1 else G.lay1 k E) := by
          unfold Hid; rw [show be + 1 - k = (be + 1 - (k + 1)) + 1 by omega]
          rfl
        have HC1 : Hid (∀ W, Xw W xd a b c ka kb kc x E G base v8 → Calls Tryz.prog 123 #[.pointer (some ⟨x, 0, none⟩), .int .i64 (k : Int)] W fun e w' => e = .returned (.int .i64 ((G.frm + k % G.n : Nat) : Int)) ∧ Only (fun _ => False) W w') := fun W hW => (glat_any W x xd G base v8 hW.lg k (by omega)).mono (fun e w' h => ⟨h.1, by rw [h.2]; exact Only.drew _ _⟩)
        have HC2 : Hid (∀ W, Xw W xd a b c ka kb kc x E G base v8 → Calls Tryz.prog 125 #[.pointer (some ⟨x, 0, none⟩), .int .i64 (k : Int)] W fun e w' => e = .returned (.string (str (G.block k))) ∧ Only (fun _ => False) W w') := fun W hW => glblock_any W x xd G base v8 hW.lg k b3
        have HC3 : Hid (∀ W, Calls Tryz.prog 124 #[.int .i64 (k : Int), .string (str (G.block k))] W fun e w' => e = .returned (.string (str (holdL k (G.block k)))) ∧ Only (fun _ => False) W w') := fun W => glsector_any W k (G.block k) (by omega) b1 b2
        have HC4 : Hid (∀ W, Xw W xd a b c ka kb kc x E G base v8 → Calls Tryz.prog 44 #[.pointer (some ⟨xd, 0, none⟩), .int .i64 ((G.frm + k % G.n : Nat) : Int), .string (str (holdL k (G.block k)))] W fun e w' => e = .returned (.int .i64 (G.lay1 k E).2) ∧ Xd w' xd a b c ka kb kc (G.lay1 k E).1 ∧ Only (xown xd a b c) W w') := fun W hW => by
          have hn := hW.lg.ok.nb; have hf := hW.lg.ok.fb; have h4 := hW.lg.ok.n4; have hm : k % G.n < G.n := Nat.mod_lt _ (by omega)
          have hl : (holdL k (G.block k)).length ≤ 64 := by
            unfold holdL
            split
            · simp
            · simp only [List.length_append, List.length_cons, numL_len, List.length_replicate]
              omega
          exact xwrite_any W xd a b c ka kb kc E hW.dk _ (str (holdL k (G.block k))) ⟨by omega, by omega⟩ (by rw [str_size]; omega)
        obtain ⟨B1, hB1⟩ : ∃ B, str (G.block k) = B := ⟨_, rfl⟩; obtain ⟨B2, hB2⟩ : ∃ B, str (holdL k (G.block k)) = B := ⟨_, rfl⟩; obtain ⟨L, hL⟩ : ∃ L, G.lay1 k E = L := ⟨_, rfl⟩; obtain ⟨p, hp⟩ : ∃ p, G.frm + k % G.n = p := ⟨_, rfl⟩; rw [hB1] at HC2 HC3; rw [hB2] at HC3 HC4; rw [hL] at HC4 HST; rw [hp] at HC1 HC4; rw [HRk.out] at HST; clear hB1 hB2 hL hp b1 b2 b3; obtain ⟨W0, hW0⟩ : ∃ x', wr = x' := ⟨_, rfl⟩; rw [hW0] at HXk HOk ⊢; clear hW0
        go_upto_region 7 with fail
        refine wp_region_noPanic ?_; refine wp_region_held_drew (S := fun W => Only (xown xd a b c) W0 W) (by kernel_rfl) (Only.drew _ _) (fun hHeld => ?_); refine tkQ (i := 0) (oi := { dst := some 38, op := Op.move (Operand.tmp 0), type := 33, pos := "ref.go:220", after := #[], guard := none }) (v := .pointer (some ⟨x, 0, none⟩)) rfl (by kernel_rfl) (Or.inl ⟨by rfl, fun w' hSw => by clear hSw; go_simp⟩) (by assumption) ?_; simp only [Act.put, lsA, lsB, lsC]; refine tkQ (i := 4) (oi := { dst := some 42, op := Op.move (Operand.tmp 0), type := 33, pos := "ref.go:220", after := #[], guard := none }) (v := .pointer (some ⟨x, 0, none⟩)) rfl (by kernel_rfl) (Or.inl ⟨by rfl, fun w' hSw => by clear hSw; go_simp⟩) (by assumption) ?_; simp only [Act.put, lsA, lsB, lsC]; refine tkQ (i := 5) (oi := { dst := some 43, op := Op.move (Operand.tmp 6), type := 3, pos := "ref.go:220", after := #[], guard := none }) (v := .int .i64 (k : Int)) rfl (by kernel_rfl) (Or.inl ⟨by rfl, fun w' hSw => by clear hSw; go_simp⟩) (by assumption) ?_; simp only [Act.put, lsA, lsB, lsC]; refine tkQ (i := 7) (oi := { dst := some 45, op := Op.move (Operand.tmp 6), type := 3, pos := "ref.go:220", after := #[], guard := none }) (v := .int .i64 (k : Int)) rfl (by kernel_rfl) (Or.inl ⟨by rfl, fun w' hSw => by clear hSw; go_simp⟩) (by assumption) ?_; simp only [Act.put, lsA, lsB, lsC]; refine tkQ (i := 8) (oi := { dst := some 46, op := Op.move (Operand.tmp 0), type := 33, pos := "ref.go:220", after := #[], guard := none }) (v := .pointer (some ⟨x, 0, none⟩)) rfl (by kernel_rfl) (Or.inl ⟨by rfl, fun w' hSw => by clear hSw; go_simp⟩) (by assumption) ?_
        simp only [Act.put, lsA, lsB, lsC]; refine tkQ (i := 9) (oi := { dst := some 47, op := Op.move (Operand.tmp 6), type := 3, pos := "ref.go:220", after := #[], guard := none }) (v := .int .i64 (k : Int)) rfl (by kernel_rfl) (Or.inl ⟨by rfl, fun w' hSw => by clear hSw; go_simp⟩) (by assumption) ?_; simp only [Act.put, lsA, lsB, lsC]; refine tkQ (i := 1) (oi := { dst := some 39, op := Op.nilCheck (Operand.tmp 38), type := 0, pos := "ref.go:220", after := #[{ on := 0, ground := Ground.data }], guard := none }) (v := .pointer (some ⟨x, 0, none⟩)) rfl (by kernel_rfl) (Or.inl ⟨by rfl, fun w' hSw => by clear hSw; go_simp⟩) (by assumption) ?_; simp only [Act.put, lsA, lsB, lsC]; refine tkQ (i := 2) (oi := { dst := some 40, op := Op.fieldAddr 88 (Operand.tmp 39) 0, type := 0, pos := "ref.go:220", after := #[{ on := 1, ground := Ground.data }], guard := none }) (v := .pointer (some ⟨x, 0, none⟩)) rfl (by kernel_rfl) (Or.inl ⟨by rfl, fun w' hSw => by clear hSw; go_simp⟩) (by assumption) ?_; simp only [Act.put, lsA, lsB, lsC]; refine tkQ (i := 3) (oi := { dst := some 41, op := Op.load 27 (Operand.tmp 40), type := 27, pos := "ref.go:220", after := #[{ on := 2, ground := Ground.data }], guard := none }) (v := .pointer (some ⟨xd, 0, none⟩)) rfl (by kernel_rfl) (yieldsIf_load_cell (by rfl) 27 _ rfl _ rfl (fun W hW => ((HXk.out.lg).kept hW HXk.out.n1 HXk.out.n2).c0) (fun W hc => ld_pXD hc)) (by assumption) ?_; simp only [Act.put, lsA, lsB, lsC]; refine wpAnyH_ready (rs := [6]) (by kernel_rfl) (by simp) ?_
        refine AllReadyH.cons (o := { dst := some 44, op := Op.call { callee := Callee.value (Operand.func 123), args := #[Operand.tmp 42, Operand.tmp 43], argTypes := #[33, 3] }, type := 3, pos := "ref.go:220", after := #[{ on := 4, ground := Ground.data }, { on := 5, ground := Ground.data }], guard := none }) rfl (fun K hK => ?_) (AllReadyH.nil)
        go_simp
        refine (HC1.out _ (HXk.out.more (Only.drew _ _))).mono ?_; rintro e y1 ⟨rfl, hy1⟩; have HY1 := hide (o2 (Only.drew _ _) hy1); clear hy1; refine hK.out _ _ (HY1.out.mono (fun _ _ e => e.elim)) (fun hHeld => ?_); clear hK K
        try simp only [Act.put, lsA, lsB, lsC]
        refine wpAnyH_ready (rs := [10]) (by kernel_rfl) (by simp) ?_; refine AllReadyH.cons (o := { dst := some 48, op := Op.call { callee := Callee.value (Operand.func 125), args := #[Operand.tmp 46, Operand.tmp 47], argTypes := #[33, 3] }, type := 9, pos := "ref.go:220", after := #[{ on := 8, ground := Ground.data }, { on := 9, ground := Ground.data }, { on := 6, ground := Ground.chain }], guard := none }) rfl (fun K hK => ?_) (AllReadyH.nil)
        go_simp
        refine (HC2.out _ (HXk.out.more HY1.out)).mono ?_; rintro e y2 ⟨rfl, hy2⟩; have HY2 := hide (o2 HY1.out hy2); clear hy2; refine hK.out _ _ (HY2.out.mono (fun _ _ e => e.elim)) (fun hHeld => ?_); clear hK K
        try simp only [Act.put, lsA, lsB, lsC]
        refine wpAnyH_ready (rs := [11]) (by kernel_rfl) (by simp) ?_; refine AllReadyH.cons (o := { dst := some 49, op := Op.call { callee := Callee.value (Operand.func 124), args := #[Operand.tmp 45, Operand.tmp 48], argTypes := #[3, 9] }, type := 9, pos := "ref.go:220", after := #[{ on := 7, ground := Ground.data }, { on := 10, ground := Ground.data }, { on := 10, ground := Ground.chain }], guard := none }) rfl (fun K hK => ?_) (AllReadyH.nil)
        go_simp
        refine (HC3.out _).mono ?_; rintro e y3 ⟨rfl, hy3⟩; have HY3 := hide (o2 HY2.out hy3); clear hy3; refine hK.out _ _ (HY3.out.mono (fun _ _ e => e.elim)) (fun hHeld => ?_); clear hK K
        try simp only [Act.put, lsA, lsB, lsC]
        refine wpAnyH_ready (rs := [12]) (by kernel_rfl) (by simp) ?_; refine AllReadyH.cons (o := { dst := some 50, op := Op.call { callee := Callee.value (Operand.func 44), args := #[Operand.tmp 41, Operand.tmp 44, Operand.tmp 49], argTypes := #[27, 3, 9] }, type := 24, pos := "ref.go:220", after := #[{ on := 3, ground := Ground.data }, { on := 6, ground := Ground.data }, { on := 11, ground := Ground.data }, { on := 11, ground := Ground.chain }], guard := none }) rfl (fun K hK => ?_) (AllReadyH.nil)
        go_simp
        refine (HC4.out _ (HXk.out.more HY3.out)).mono ?_; rintro e y4 ⟨rfl, hd4, hy4⟩; have HX4 := hide ((HXk.out.more HY3.out).wrote hy4 hd4); have HY4 := hide ((HY3.out.mono (T := xown xd a b c) (fun _ _ e => e.elim)).trans hy4 (fun _ _ e => e)); clear hd4 hy4; refine hK.out _ _ (HY4.out) (fun hHeld => ?_); clear hK K
        try simp only [Act.put, lsA, lsB, lsC]
        refine tkQ (i := 13) (oi := { dst := some 7, op := Op.assign (Operand.tmp 50), type := 24, pos := "ref.go:220", after := #[{ on := 12, ground := Ground.data }, { on := 12, ground := Ground.chain }, { on := 0, ground := Ground.phase }, { on := 1, ground := Ground.phase }, { on := 2, ground := Ground.phase }, { on := 3, ground := Ground.phase }, { on := 4, ground := Ground.phase }, { on := 5, ground := Ground.phase }, { on := 6, ground := Ground.phase }, { on := 7, ground := Ground.phase }, { on := 8, ground := Ground.phase }, { on := 9, ground := Ground.phase }, { on := 10, ground := Ground.phase }, { on := 11, ground := Ground.phase }, { on := 12, ground := Ground.phase }], guard := none }) (v := .int .i64 L.2) rfl (by kernel_rfl) (Or.inl ⟨by rfl, fun w' hSw => by clear hSw; go_simp⟩) (by assumption) ?_; simp only [Act.put, lsA, lsB, lsC]; refine wpAnyH_done (by kernel_rfl) ?_ _; refine NoPanic.normal ?_; rw [Exit.then]; have HO4 := hide (HOk.out.trans HY4.out (fun _ _ e => e)); clear hHeld
        by_cases hL : L.2 = 0
        · rw [if_pos hL] at HST
          have hL' : (L.2 != 0) = false := by simp [hL]
          clear hL
          go_wp2_with fail
          go_roundw
          case rel => exact ⟨k + 1, L.1, by omega, by omega, by go_num, hide HST.out.symm, HX4, HO4⟩
          case measure => simp [intOf]; omega
        · rw [if_neg hL] at HST
          have hL' : (L.2 != 0) = true := by simpa using hL
          have HF2 : Hid (F = (L.1, L.2, G.flushed)) := by
            unfold Hid; rw [HF.out, HST.out, if_neg hL]
          clear hL
          go_wp2_with fail
          go_ret
          refine ⟨by rw [HF2.out]; rfl, by rw [HF2.out]; exact HX4.out, HO4.out.mono (fun _ _ e => .inl e)⟩
      · have hcond : ¬ (k : Int) * 54 + 1 < (G.tail : Int) := fun e => hlt ((HEND.out k).1 e)
        have hz : be + 1 - k = 0 := by omega
        rw [hz] at HRk; have hER : R = (E, 0) := HRk.out.symm; have c0 := HXk.out.lg.c0
        have HF2 : Hid (F = if E.sync.2 = 0 then (E.sync.1, 0, G.tail) else (E.sync.1, E.sync.2, G.flushed)) := by
          unfold Hid; rw [HF.out, hER]
          rfl
        have HSY := hide (xsync_any wr xd a b c ka kb kc E HXk.out.dk); obtain ⟨Y, hY⟩ : ∃ Y, E.sync = Y := ⟨_, rfl⟩; rw [hY] at HF2 HSY; clear hER hY hz hlt
        go_wp2_with fail
        refine HSY.out.mono ?_; rintro e w3 ⟨rfl, hx3, ho3⟩; have HX3 := hide (HXk.out.wrote ho3 hx3); have HO3 := hide (HOk.out.trans ho3 (fun _ _ e => e)); clear hx3 ho3; have c6 := HX3.out.lg.c6; have f6 := HX3.out.lg.fz 6
        by_cases hs : Y.2 = 0
        · have hs' : (Y.2 == 0) = true := by simp [hs]
          rw [if_pos hs] at HF2; have HS := hide hs; have HTL := hide (Nat.le_refl G.tail); clear hs
          go_wp2_with fail
          go_ret
          obtain ⟨z1, z2⟩ := HX3.out.last G.tail (Nat.le_refl _); refine ⟨by rw [HF2.out]; exact congrArg (fun q => Ending.returned (.int .i64 q)) HS.out, by rw [HF2.out]; exact z1, (HO3.out.mono (T := fun k => xown xd a b c k ∨ k = x) (fun _ _ e => .inl e)).trans z2 (fun _ _ e => .inr e)⟩
        · have hs' : (Y.2 == 0) = false := by simpa using hs
          rw [if_neg hs] at HF2; clear hs
          go_wp2_with fail
          go_ret
          exact ⟨by rw [HF2.out]; rfl, by rw [HF2.out]; exact HX3.out, HO3.out.mono (fun _ _ e => .inl e)⟩
end Go.Proofs.YtebijheonkagfaaGreatDoor
