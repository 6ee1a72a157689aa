/- An act that crashes. -/
import Derived.Test.YtachbonlakbjmaaDDoesW
namespace Go.Proofs.Ytachbonlakbjmaa
open Go.RowKit

theorem owns_kept {S : Nat → Prop} {w w' : World} {base n : Nat} {e : TypeId} {v : Value} {xs : List Value} (h : w.ownsRow base e 1 v n xs) (ho : Only S w w') (hS : ∀ k, v.ownBlock = some k → ¬ S k) : w'.ownsRow base e 1 v n xs := by
  obtain ⟨h1, h2⟩ := h
  refine ⟨h1, ?_⟩
  rcases h2 with h2 | ⟨g, cap, cur, hv, hg, hh, r⟩
  · exact .inl h2
  · subst hv
    exact .inr ⟨g, cap, cur, rfl, hg, by rw [ho.block g (Array.getElem?_eq_some_iff.1 hh).1 (hS g rfl)]; exact hh, r⟩
theorem Both.lt {w : World} {d g m x a b c ka kb kc : Nat} {D : Dk} (h : Both w d g m x a b c ka kb kc D) : ∀ k, bown d g m x a b c k → k < w.heap.size := by
  have h1 := h.one.lt
  have h2 := h.one.old.lt
  have h3 := h.one.map.lt
  have h4 := h.two.lt
  have h5 := h.two.ra.lt
  have h6 := h.two.rb.lt
  have h7 := h.two.rc.lt
  rintro k ((rfl | rfl | rfl) | (rfl | rfl | rfl | rfl))
  all_goals assumption
set_option maxRecDepth 100000 in
set_option maxHeartbeats 800000 in
theorem does_crash (w : World) (d g m x a b c ka kb kc : Nat) (D : Dk) (h : Both w d g m x a b c ka kb kc D) (wh at_ many fill : Int) (odd : Bool) (B cp : Nat) (ao : Option Addr) (l : List Int) (hI : Ints w B ao l) (hnil : ao = none → cp = 0) (hn : l.length ≤ 17592186043904) (hB : 0 < l.length → ¬ bown d g m x a b c B) (hw : (wh % 6 == 4) = true) (h0 : 0 ≤ wh) (h1 : wh < 256) :
    Calls Try.prog 8 #[.pointer (some ⟨d, 0, none⟩), .pointer (some ⟨x, 0, none⟩), .agg #[.int .u8 wh, .int .i64 at_, .int .i64 many, .int .i64 fill, .bool odd, .slice ao l.length cp]] w fun e w' => e = .returned (.bool true) ∧ Both w' d g m x a b c ka kb kc (D.crash l) ∧ Only (bown d g m x a b c) w w' := by
  have hw0 : (wh % 6 == 0) = false := by simp at hw ⊢; omega
  have hw1 : (wh % 6 == 1) = false := by simp at hw ⊢; omega
  have hw2 : (wh % 6 == 2) = false := by simp at hw ⊢; omega
  have hw3 : (wh % 6 == 3) = false := by simp at hw ⊢; omega
  have H := hide h
  have HLT := hide h.lt
  obtain ⟨W0, hW0⟩ : ∃ W0, W0 = w.alloc (.cells #[.int .u8 wh, .int .i64 at_, .int .i64 many, .int .i64 fill, .bool odd, .slice ao l.length cp] 36) := ⟨_, rfl⟩
  have HO0 : Hid (Only (fun _ => False) w W0) := by rw [hW0]; exact hide (Only.alloc _ _ _)
  have HB := hide (H.out.same HO0.out)
  have q5 : W0.cell? ⟨w.heap.size, 5, none⟩ = some (.slice ao l.length cp) := by rw [hW0]; simp
  have HI := hide (hI.kept HO0.out (fun _ h => h))
  have HBO := hide hB
  have HW0 := hide hW0
  have Q5 := hide q5
  clear hW0 h hI hB
  go_enter Try.func8, Try.ntmps8
  go_wp2_with fail
  rw [← HW0.out]
  refine (lent_any W0 B ao cp l HI.out hnil hn).mono ?_
  rintro e w1 ⟨gl, cap, rfl, hown, hO1⟩
  have hgl := hown.lt gl rfl
  have hli := lent_ints hown HI.out.wf HI.out.len
  have HOWN := hide hown
  have HLI := hide hli.1
  have HB1 := hide (HB.out.same hO1)
  have k5 := (hO1.cell (p := ⟨w.heap.size, 5, none⟩) (World.block_lt_of_cell? _ _ Q5.out) (fun h => h)).trans Q5.out
  have K5 := hide k5
  have HI1 := hide (HI.out.kept hO1 (fun _ h => h))
  have HO1 := hide (HO0.out.trans hO1 (fun _ _ h => h))
  have hs0 := HO0.out.size
  have hglo : ¬ bown d g m x a b c gl := fun hb => by have := HLT.out gl hb; omega
  have hnew : ¬ bown d g m x a b c w.heap.size := fun hb => by have := HLT.out _ hb; omega
  have HGLO := hide hglo
  have HNEW := hide hnew
  clear hown hO1 hli k5 q5 hglo hnew
  go_wp2_with fail
  refine (crash_any w1 d g m D HB1.out.one gl (some ⟨gl, 0, none⟩) cap l HLI.out (fun _ hb => HGLO.out (.inl hb))).mono ?_
  rintro e w2 ⟨rfl, hd2, hO2⟩
  have HD2 := hide hd2
  have HX2 := hide (HB1.out.xkept hO2)
  have k5 := (hO2.cell (p := ⟨w.heap.size, 5, none⟩) (World.block_lt_of_cell? _ _ K5.out) (fun hb => HNEW.out (.inl hb))).trans K5.out
  have K52 := hide k5
  have HI2 := hide (HI1.out.kept hO2 (fun h0 hb => HBO.out h0 (.inl hb)))
  have HOW2 := hide (owns_kept HOWN.out hO2 (fun k hk hb => HGLO.out (by simp [Value.ownBlock] at hk; rw [hk]; exact .inl hb)))
  have HO2 := hide hO2
  clear hd2 hO2
  go_wp2_with fail
  refine (xcrash_any w2 x a b c ka kb kc D HX2.out B ao cp l HI2.out (fun h0 hb => HBO.out h0 (.inr hb))).mono ?_
  rintro e w3 ⟨rfl, hx3, hO3⟩
  have HX3 := hide hx3
  have HD3 := hide (Both.dkept HD2.out H.out.off hO3)
  have HI3 := hide (HI2.out.kept hO3 (fun h0 hb => HBO.out h0 (.inr hb)))
  have HOW3 := hide (owns_kept HOW2.out hO3 (fun k hk hb => HGLO.out (by simp [Value.ownBlock] at hk; rw [hk]; exact .inr hb)))
  clear k5
  have k5 := (hO3.cell (p := ⟨w.heap.size, 5, none⟩) (World.block_lt_of_cell? _ _ K52.out) (fun hb => HNEW.out (.inr hb))).trans K52.out
  have HO3 := hide hO3
  clear hx3 hO3
  go_wp2_with fail
  refine (kept_true w3 _ gl cap B cp ao l HOW3.out HI3.out hn).mono ?_
  rintro e w4 ⟨rfl, hO4⟩
  have HO4 := hide hO4
  clear hO4 k5
  go_wp2_with fail
  go_ret
  refine ⟨rfl, (Both.mk HD3.out HX3.out H.out.off).same HO4.out, ?_⟩
  exact (((HO1.out.mono (fun _ _ h => h.elim)).trans (HO2.out.mono (fun _ _ h => Or.inl h)) (fun _ _ h => h)).trans (HO3.out.mono (fun _ _ h => Or.inr h)) (fun _ _ h => h)).trans (HO4.out.mono (fun _ _ h => h.elim)) (fun _ _ h => h)
end Go.Proofs.Ytachbonlakbjmaa
