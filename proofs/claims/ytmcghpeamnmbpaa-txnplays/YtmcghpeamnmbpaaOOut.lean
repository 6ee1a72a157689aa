/- What out does. -/
import Derived.Test.YtmcghpeamnmbpaaOFind
namespace Go.Proofs.Ytmcghpeamnmbpaa
open Go.RowKit Go.Maps

theorem load_tx {w : World} {b : Nat} {v0 v1 v2 v3 v4 v5 : Value} (h : Cb w b [v0, v1, v2, v3, v4, v5]) : (loadVar 37 ⟨b, 0, none⟩).run Try.prog w = .ok (.agg #[v0, v1, v2, v3, v4, v5]) w := by
  have c0 := h.c 0 _ rfl
  have c1 := h.c 1 _ rfl
  have c2 := h.c 2 _ rfl
  have c3 := h.c 3 _ rfl
  have c4 := h.c 4 _ rfl
  have c5 := h.c 5 _ rfl
  simp [loadVar, go_sem, c0, c1, c2, c3, c4, c5]
theorem ret8 (W : World) (b : Nat) (u0 u1 v0 v1 v2 v3 v4 v5 : Value) : Only (fun i => b ≤ i ∧ i < b + 2) W ((((((((W.setCell ⟨b + 1, 0, none⟩ u0).setCell ⟨b + 1, 1, none⟩ u1).setCell ⟨b, 0, none⟩ v0).setCell ⟨b, 1, none⟩ v1).setCell ⟨b, 2, none⟩ v2).setCell ⟨b, 3, none⟩ v3).setCell ⟨b, 4, none⟩ v4).setCell ⟨b, 5, none⟩ v5) :=
  (((Only.put W (b + 1) 0 u0).puts 1 u1).mono (T := fun i => b ≤ i ∧ i < b + 2) (fun i _ e => by omega)).trans ((Only.six _ b _ _ _ _ _ _).mono (fun i _ e => by omega)) (fun _ _ h => h)
set_option maxRecDepth 100000 in
set_option maxHeartbeats 800000 in
theorem out_any (w : World) (b : Nat) (Q : Nat → Prop) (s : Sp) (x : Tx) (H : Txm w b s x) (h : Nm w Q s.ao x.act) :
    Calls Try.prog 37 #[.pointer (some ⟨b, 0, none⟩)] w fun e w' => ∃ a2 c2, e = .returned (.agg #[.int .i64 x.nx, .slice a2 x.act.length c2, .int .i64 x.xid, .int .i64 x.fst, .int .i64 x.lst, .int .i64 x.und]) ∧ Nm w' (fun k => w.heap.size ≤ k) a2 x.act ∧ Fr w' w.heap.size a2 x.act ∧ Only (fun _ => False) w w' := by
  have hbl := H.lt
  have c0 := H.c0
  have c1 := H.c1
  have c2 := H.c2
  have c3 := H.c3
  have c4 := H.c4
  have c5 := H.c5
  have HC : Hid (∀ W, Only (fun _ => False) w W → Calls Try.prog 31 #[.agg #[.int .i64 x.nx, .slice s.ao x.act.length s.cp]] W fun e w' => ∃ a2 c2, e = .returned (.agg #[.int .i64 x.nx, .slice a2 x.act.length c2]) ∧ Nm w' (fun k => W.heap.size ≤ k) a2 x.act ∧ Fr w' W.heap.size a2 x.act ∧ Only (fun _ => False) W w') := fun W hW => apart_any W Q x.nx s.ao s.cp x.act (h.more hW)
  clear H h
  obtain ⟨L, hL⟩ : ∃ L, x.act = L := ⟨_, rfl⟩
  obtain ⟨k, hk⟩ : ∃ k, L.length = k := ⟨_, rfl⟩
  obtain ⟨nx, hnx⟩ : ∃ k, x.nx = k := ⟨_, rfl⟩
  obtain ⟨xi, hxi⟩ : ∃ k, x.xid = k := ⟨_, rfl⟩
  obtain ⟨fi, hfi⟩ : ∃ k, x.fst = k := ⟨_, rfl⟩
  obtain ⟨la, hla⟩ : ∃ k, x.lst = k := ⟨_, rfl⟩
  obtain ⟨un, hun⟩ : ∃ k, x.und = k := ⟨_, rfl⟩
  obtain ⟨ao, hao⟩ : ∃ k, s.ao = k := ⟨_, rfl⟩
  obtain ⟨cp, hcp⟩ : ∃ k, s.cp = k := ⟨_, rfl⟩
  rw [hL, hnx, hao, hcp, hk] at HC
  rw [hnx] at c0
  rw [hao, hL, hk, hcp] at c1
  rw [hxi] at c2
  rw [hfi] at c3
  rw [hla] at c4
  rw [hun] at c5
  rw [hL, hk, hnx, hxi, hfi, hla, hun]
  clear hL hk hnx hxi hfi hla hun hao hcp
  go_enter Try.func37, Try.ntmps37
  go_upto_region 2 with fail
  obtain ⟨W2, hW2⟩ : ∃ x, (w.alloc (.cells #[.int .i64 0, .slice none 0 0, .int .i64 0, .int .i64 0, .int .i64 0, .int .i64 0] 37)).alloc (.cells #[.int .i64 nx, .slice ao k cp, .int .i64 xi, .int .i64 fi, .int .i64 la, .int .i64 un] 37) = x := ⟨_, rfl⟩
  have d1 : Cb W2 w.heap.size [.int .i64 0, .slice none 0 0, .int .i64 0, .int .i64 0, .int .i64 0, .int .i64 0] := by rw [← hW2]; exact (Cb.new w _ _).more (onlyA _ _ _)
  have d2 : Cb W2 (w.heap.size + 1) [.int .i64 nx, .slice ao k cp, .int .i64 xi, .int .i64 fi, .int .i64 la, .int .i64 un] := by rw [← hW2]; exact Cb.at _ _ (by simp) _ _
  have s2 : W2.heap.size = w.heap.size + 2 := by rw [← hW2]; simp
  have HW2 : Hid (Only (fun _ => False) w W2) := by rw [← hW2]; exact o2 (onlyA _ _ _) (onlyA _ _ _)
  rw [hW2]
  have HD1 := hide d1
  have HD2 := hide d2
  have e0 := d2.c 0 _ rfl
  have e1 := d2.c 1 _ rfl
  obtain ⟨sz, hsz⟩ : ∃ n, w.heap.size = n := ⟨_, rfl⟩
  rw [hsz] at HD1 HD2 e0 e1 s2 ⊢
  have HSZ := hide hsz
  have HS2 := hide s2
  clear hW2 d1 d2 c0 c1 c2 c3 c4 c5 hbl hsz s2
  go_wp2_with fail
  refine (HC.out _ HW2.out).mono ?_
  rintro e W3 ⟨a3, c3, rfl, hN, hn, hO⟩
  have g1 := HD1.out.more hO
  have g2 := HD2.out.more hO
  have HN := hide hN
  have Hn := hide hn
  have HO := hide hO
  have t0 := g2.c 0 _ rfl
  have t1 := g2.c 1 _ rfl
  have t2 := g2.c 2 _ rfl
  have t3 := g2.c 3 _ rfl
  have t4 := g2.c 4 _ rfl
  have t5 := g2.c 5 _ rfl
  have f0 := g2.f 0
  have f1 := g2.f 1
  have z0 := g1.c 0 _ rfl
  have z1 := g1.c 1 _ rfl
  have z2 := g1.c 2 _ rfl
  have z3 := g1.c 3 _ rfl
  have z4 := g1.c 4 _ rfl
  have z5 := g1.c 5 _ rfl
  have y0 := g1.f 0
  have y1 := g1.f 1
  have y2 := g1.f 2
  have y3 := g1.f 3
  have y4 := g1.f 4
  have y5 := g1.f 5
  have HG1 := hide g1
  clear hN hn hO HC g1 g2
  go_wp2_with fail
  refine bodyPost_ret (results_cell1 rfl rfl (load_tx (Cb.six (HG1.out.kept (S := fun k => k = sz + 1) ((Only.put _ _ _ _).puts _ _) (by omega)) _ _ _ _ _ _))) rfl ?_
  have hsz := HSZ.out
  have hs2 := HS2.out
  refine ⟨a3, c3, rfl, (HN.out.kept (ret8 _ _ _ _ _ _ _ _ _ _) (fun i _ hi h => by have := h.2; omega)).mono (fun i _ hi => by omega), (Hn.out.kept (ret8 _ _ _ _ _ _ _ _ _ _) (fun i hi h => by have := h.2; omega)).mono (by omega), ?_⟩
  exact (o2 HW2.out HO.out).trans (ret8 _ _ _ _ _ _ _ _ _ _) (fun i hi h => by have := h.1; omega)
end Go.Proofs.Ytmcghpeamnmbpaa
