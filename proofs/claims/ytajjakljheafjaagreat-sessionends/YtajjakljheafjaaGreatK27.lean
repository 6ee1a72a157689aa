/- Parts. -/
import Derived.Test.YtajjakljheafjaaGreatK26
import Derived.Test.YtajjakljheafjaaGreatK22
set_option maxRecDepth 100000
namespace Go.Proofs.YtajjakljheafjaaGreat
open Go.RowKit
theorem kts_made2 (n:Nat) (hn:n≤8796093021952):∃ O:Obj,(∀ W:World,(Instr.makeSlice 38 (.int .i64 0) (.int .i64 (n:Int))).run Tryz.prog W=.ok (.slice (some ⟨W.heap.size,0,none⟩) 0 n) (W.alloc O)) ∧
    (∀ (W:World) (base:Nat),base≤W.heap.size→Kts (W.alloc O) base (.slice (some ⟨W.heap.size,0,none⟩) 0 n) []):=by
  obtain ⟨i0,hi,hz0,hz1,hz2⟩:=info_parts Tryz.infoIn
  refine ⟨.cells (madeCells (Value.int .i64 0).cells ((n:Int).toNat * i0.size)) 3,fun W=>?_,fun W base hb=>?_⟩
  · have h:=run_make (P:=Tryz.prog) W 38 3 i0 (.int .i64 0) Tryz.underlying38 hi hz0 .i64 .i64 0 (n:Int) (by omega) (by omega) (by rw [hz2]; omega) (by omega)
    simpa using h
  · obtain ⟨w',hmk,hown,hgr⟩:=run_make_own (P:=Tryz.prog) W base 38 3 i0 (.int .i64 0) 1 Tryz.underlying38 hi hz0 hz1 .i64 .i64 n (by rw [hz2]; omega) (by unfold maxLen; omega) hb
    have h:=run_make (P:=Tryz.prog) W 38 3 i0 (.int .i64 0) Tryz.underlying38 hi hz0 .i64 .i64 0 (n:Int) (by omega) (by omega) (by rw [hz2]; omega) (by omega)
    rw [hmk] at h
    simp at h
    subst h
    exact hown
theorem kts_room (w:World) (base g n C:Nat) (es:List Int) (h:Kts w base (.slice (some ⟨g,0,none⟩) n C) es) (hn:es.length=n) (hr:n+1≤C) (k:Int) (B:Nat) (hf:w.cell? ⟨B,0,none⟩=some (.int .i64 k)) :
    ∃ w',(Builtin.append_ #[38,38] 38 #[.slice (some ⟨g,0,none⟩) n C,.slice (some ⟨B,0,none⟩) 1 1]).run Tryz.prog w=.ok (.slice (some ⟨g,0,none⟩) (n+1) C) w'∧Kts w' base (.slice (some ⟨g,0,none⟩) (n+1) C) (es++[k])∧Only (fun j=>(Value.slice (some ⟨g,0,none⟩) n C).ownBlock=some j) w w':=by
  obtain ⟨i0,hi,hz0,hz1,hz2⟩:=info_parts Tryz.infoIn
  subst hn
  obtain ⟨w',hr',h2,h3⟩:=run_append_own_spare (P:=Tryz.prog) w base 38 38 3 i0 1 Tryz.underlying38 hi hz1 g es.length C (ncs es) h ⟨B,0,none⟩ 1 1 (ncs [k]) rfl
    (fun j u hu=>by
      have hj:j < 1:=by
        have:=(List.getElem?_eq_some_iff.1 hu).1
        rwa [ncs_len] at this
      obtain rfl:j=0:=by omega
      have e:u=.int .i64 k:=by
        simp [ncs] at hu
        exact hu.symm
      rw [e,add_at]
      exact hf) (fun u hu=>by
      simp [ncs] at hu
      subst hu
      rfl) hr
  refine ⟨w',hr',?_,Only.grown h3 (fun j hj=>hj)⟩
  unfold Kts
  rw [show ncs (es++[k])=ncs es++ncs [k] by simp [ncs],List.length_append]
  exact h2
set_option maxHeartbeats 3200000 in
theorem readInner_go (w:World) (a v r:Int) (h:ByteArray) (hi:En) (B cp:Nat) (ao:Option Addr) (l:List ByteArray) (hS:Strs w B ao l) (hv:¬ v=0) (hH:hdO 3 v r h=some hi) (hl:l.length≤8796093021952) (hp:0 < l.length) :
    Calls Tryz.prog 98 #[pgv a 3 v r h ao l.length cp] w fun e w'=>CvR e (rdI hi none l).isSome∧Only (fun _=>False) w w':=by
  have HX:=hide (lf_new w (.int .i64 a) (.int .i64 3) (.int .i64 v) (.int .i64 r) (.string h) (.slice ao l.length cp))
  have HRH:Hid (∀ W,Calls Tryz.prog 124 #[.agg #[.int .i64 a,.int .i64 3,.int .i64 v,.int .i64 r,.string h,.slice ao l.length cp]] W fun e w'=>e=.returned (.tuple #[.agg #[.string hi.key,.int .i64 hi.page,.int .i64 hi.slot],.bool true])∧Only (fun _=>False) W w'):=fun W=>by
    have q:=readHead_any W a 3 v r h ao l.length cp
    rw [hH] at q
    exact q
  obtain ⟨O,hmk,hown⟩:=ets_made2 l.length hl
  obtain ⟨O2,hmk2,hown2⟩:=kts_made2 l.length hl
  have HOWN:Hid (∀ (W:World) (g:Nat),g=W.heap.size→w.heap.size≤W.heap.size→Ets (W.alloc O) w.heap.size (.slice (some ⟨g,0,none⟩) 0 l.length) []):=fun W g hg hb=>by subst hg; exact hown W _ hb
  have HOWK:Hid (∀ (W:World) (g:Nat),g=W.heap.size→w.heap.size≤W.heap.size→Kts (W.alloc O2) w.heap.size (.slice (some ⟨g,0,none⟩) 0 l.length) []):=fun W g hg hb=>by subst hg; exact hown2 W _ hb
  have HS:=hide hS
  have hv0:(v == 0)=false:=by simpa using hv
  have hl0:((l.length:Int) == 0)=false:=by rw [beq_eq_false_iff_ne]; omega
  have HLL:=hide hl
  clear hS hown hown2 hv hH hp
  unfold pgv
  go_enter Tryz.func98,Tryz.ntmps98
  go_upto_region 1 with fail
  obtain ⟨W0,hW0⟩:=exq ((w.alloc (.cells #[.int .i64 a,.int .i64 3,.int .i64 v,.int .i64 r,.string h,.slice ao l.length cp] 37)).alloc (.cells #[.slice none 0 0,.slice none 0 0,.string ⟨#[]⟩,.int .i64 0,.int .i64 0] 164))
  rw [hW0] at HX ⊢
  clear hW0
  obtain ⟨p0,p1,p2,p3,p4,p5,_⟩:=HX.out.1
  go_wp2_with fail
  refine (HRH.out _).mono ?_
  rintro e w1 ⟨rfl,ho⟩
  have HP1:=hide (HX.out.1.more ho)
  have HC1:=hide (HX.out.2.1.more ho)
  have HO1:=hide (o2 HX.out.2.2 ho)
  clear ho p0 p1 p2 p3 p4 p5 HX HRH
  go_upto_region 2 with fail
  have HA:=hide (onlyA w1 (.cells #[.string hi.key,.int .i64 hi.page,.int .i64 hi.slot] 89))
  have HV2:=hide (Ev.new w1 hi)
  obtain ⟨b4,hb4⟩:=exq (w1.heap.size)
  rw [hb4] at HV2 ⊢
  clear hb4
  obtain ⟨w2,hw2⟩:=exq (w1.alloc (.cells #[.string hi.key,.int .i64 hi.page,.int .i64 hi.slot] 89))
  rw [hw2] at HA HV2 ⊢
  clear hw2
  have HP2:=hide (HP1.out.more HA.out)
  have HC2:=hide (HC1.out.more HA.out)
  have HO2:=hide (o2 HO1.out HA.out)
  clear HA HP1 HC1 HO1
  have p2:=HP2.out.c2
  have p5:=HP2.out.c5
  go_upto_region 4 with fail
  clear p2 p5 hv0 hl0
  go_cut [6] (fun p wx=>∃ c g q,p=.pointer (some ⟨c,0,none⟩)∧Hid (Lc w wx a v r h ao l.length cp c (.slice (some ⟨g,0,none⟩) 0 l.length) (.slice (some ⟨q,0,none⟩) 0 l.length) hi [] []))
  case first=>
    -- {r4
    refine wp_region_noPanic ?_
    refine wp_region_held_drew (S:=fun W=>Only (fun _=>False) w2 W) (by kernel_rfl) (Only.drew _ _) (fun hHeld=>?_)
    refine tkP 0 (.pointer (some ⟨w.heap.size,5,none⟩)) rfl ?_
    refine tkP 4 (.pointer (some ⟨w.heap.size,5,none⟩)) rfl ?_
    refine tkQ 8 (.agg #[.string hi.key,.int .i64 hi.page,.int .i64 hi.slot]) rfl (yieldsIf_load_ev (by rfl) _ rfl rfl (fun W hW=>HV2.out.more hW)) ?_
    refine tkQ 1 (.slice ao l.length cp) rfl (yieldsIf_load_cell (by rfl) 35 _ rfl _ rfl (fun W hW=>(HP2.out.more hW).c5) (fun W hc=>ld_strings hc)) ?_
    refine tkQ 5 (.slice ao l.length cp) rfl (yieldsIf_load_cell (by rfl) 35 _ rfl _ rfl (fun W hW=>(HP2.out.more hW).c5) (fun W hc=>ld_strings hc)) ?_
    refine tkP 2 (.int .i64 (l.length:Int)) rfl ?_
    refine tkP 6 (.int .i64 (l.length:Int)) rfl ?_
    refine wpAnyH_ready (rs:=[3,7,10]) (by kernel_rfl) (by simp) ?_
    refine arC rfl (fun K hK=>?_) (arC rfl (fun K hK=>?_) (arC rfl (fun K hK=>?_) (AllReadyH.nil)))
    · go_simp
      refine hK.out _ _ (o2 (onlyA _ _) (Only.drew _ _)) (fun hHeld=>?_)
      clear hK K
      try simp only [Act.put,lsA,lsB,lsC]
      refine wpAnyH_ready (rs:=[7,10]) (by kernel_rfl) (by simp) ?_
      refine arC rfl (fun K hK=>?_) (arC rfl (fun K hK=>?_) (AllReadyH.nil))
      · go_simp
        refine hK.out _ _ (o2 (o2 (onlyA _ _) (onlyA _ _)) (Only.drew _ _)) (fun hHeld=>?_)
        clear hK K
        try simp only [Act.put,lsA,lsB,lsC]
        refine tkP 9 (.agg #[.slice (some ⟨w2.heap.size,0,none⟩) 0 l.length,.slice (some ⟨w2.heap.size+1,0,none⟩) 0 l.length,.string hi.key,.int .i64 hi.page,.int .i64 hi.slot]) rfl ?_
        refine rd1 10 rfl (fun K hK=>?_)
        go_simp
        refine hK.out _ _ (o2 (o2 (o2 (onlyA _ _) (onlyA _ _)) (onlyA _ _)) (Only.drew _ _)) (fun hHeld=>?_)
        clear hK K
        try simp only [Act.put,lsA,lsB,lsC]
        refine rd1 11 rfl (fun K hK=>?_)
        go_simp
        have HLc:Hid (Lc w (((w2.alloc O).alloc O2).alloc (.cells #[.slice (some ⟨w2.heap.size,0,none⟩) 0 l.length,.slice (some ⟨w2.heap.size+1,0,none⟩) 0 l.length,.string hi.key,.int .i64 hi.page,.int .i64 hi.slot] 164)).drew a v r h ao l.length cp (w2.heap.size+1+1) (.slice (some ⟨w2.heap.size,0,none⟩) 0 l.length) (.slice (some ⟨w2.heap.size+1,0,none⟩) 0 l.length) hi [] []):=Lc.firstI HP2.out HC2.out HO2.out (o2 (o2 (o2 (onlyA _ _) (onlyA _ _)) (onlyA _ _)) (Only.drew _ _)) ((Cv.at ((w2.alloc O).alloc O2) _ (by simp) _ _ hi).more (Only.drew _ _)) ((HOWN.out w2 _ (by simp) (by have:=HO2.out.size; simp; omega)).more (o2 (o2 (onlyA _ _) (onlyA _ _)) (Only.drew _ _))) ((HOWK.out (w2.alloc O) _ (by simp) (by have:=HO2.out.size; simp; omega)).more (o2 (onlyA _ _) (Only.drew _ _))) (by omega)
        refine hK.out _ _ (o2 (o2 (o2 (onlyA _ _) (onlyA _ _)) (onlyA _ _)) (Only.drew _ _)) (fun hHeld=>?_)
        clear hK K
        try simp only [Act.put,lsA,lsB,lsC]
        refine dnN ?_
        go_wp2_with fail
        go_meet
        exact ⟨_,_,_,rfl,HLc⟩
      · go_simp
        refine hK.out _ _ (o2 (o2 (onlyA _ _) (onlyA _ _)) (Only.drew _ _)) (fun hHeld=>?_)
        clear hK K
        try simp only [Act.put,lsA,lsB,lsC]
        refine rd1 7 rfl (fun K hK=>?_)
        go_simp
        refine hK.out _ _ (o2 (o2 (o2 (onlyA _ _) (onlyA _ _)) (onlyA _ _)) (Only.drew _ _)) (fun hHeld=>?_)
        clear hK K
        try simp only [Act.put,lsA,lsB,lsC]
        refine tkP 9 (.agg #[.slice (some ⟨w2.heap.size,0,none⟩) 0 l.length,.slice (some ⟨w2.heap.size+1+1,0,none⟩) 0 l.length,.string hi.key,.int .i64 hi.page,.int .i64 hi.slot]) rfl ?_
        refine rd1 11 rfl (fun K hK=>?_)
        go_simp
        have HLc:Hid (Lc w (((w2.alloc O).alloc (.cells #[.slice (some ⟨w2.heap.size,0,none⟩) 0 l.length,.slice (some ⟨w2.heap.size+1+1,0,none⟩) 0 l.length,.string hi.key,.int .i64 hi.page,.int .i64 hi.slot] 164)).alloc O2).drew a v r h ao l.length cp (w2.heap.size+1) (.slice (some ⟨w2.heap.size,0,none⟩) 0 l.length) (.slice (some ⟨w2.heap.size+1+1,0,none⟩) 0 l.length) hi [] []):=Lc.firstI HP2.out HC2.out HO2.out (o2 (o2 (o2 (onlyA _ _) (onlyA _ _)) (onlyA _ _)) (Only.drew _ _)) ((Cv.at (w2.alloc O) _ (by simp) _ _ hi).more (o2 (onlyA _ _) (Only.drew _ _))) ((HOWN.out w2 _ (by simp) (by have:=HO2.out.size; simp; omega)).more (o2 (o2 (onlyA _ _) (onlyA _ _)) (Only.drew _ _))) ((HOWK.out ((w2.alloc O).alloc (.cells #[.slice (some ⟨w2.heap.size,0,none⟩) 0 l.length,.slice (some ⟨w2.heap.size+1+1,0,none⟩) 0 l.length,.string hi.key,.int .i64 hi.page,.int .i64 hi.slot] 164)) _ (by simp) (by have:=HO2.out.size; simp; omega)).more (Only.drew _ _)) (by omega)
        refine hK.out _ _ (o2 (o2 (o2 (onlyA _ _) (onlyA _ _)) (onlyA _ _)) (Only.drew _ _)) (fun hHeld=>?_)
        clear hK K
        try simp only [Act.put,lsA,lsB,lsC]
        refine dnN ?_
        go_wp2_with fail
        go_meet
        exact ⟨_,_,_,rfl,HLc⟩
    · go_simp
      refine hK.out _ _ (o2 (onlyA _ _) (Only.drew _ _)) (fun hHeld=>?_)
      clear hK K
      try simp only [Act.put,lsA,lsB,lsC]
      refine wpAnyH_ready (rs:=[3,10]) (by kernel_rfl) (by simp) ?_
      refine arC rfl (fun K hK=>?_) (arC rfl (fun K hK=>?_) (AllReadyH.nil))
      · go_simp
        refine hK.out _ _ (o2 (o2 (onlyA _ _) (onlyA _ _)) (Only.drew _ _)) (fun hHeld=>?_)
        clear hK K
        try simp only [Act.put,lsA,lsB,lsC]
        refine tkP 9 (.agg #[.slice (some ⟨w2.heap.size+1,0,none⟩) 0 l.length,.slice (some ⟨w2.heap.size,0,none⟩) 0 l.length,.string hi.key,.int .i64 hi.page,.int .i64 hi.slot]) rfl ?_
        refine rd1 10 rfl (fun K hK=>?_)
        go_simp
        refine hK.out _ _ (o2 (o2 (o2 (onlyA _ _) (onlyA _ _)) (onlyA _ _)) (Only.drew _ _)) (fun hHeld=>?_)
        clear hK K
        try simp only [Act.put,lsA,lsB,lsC]
        refine rd1 11 rfl (fun K hK=>?_)
        go_simp
        have HLc:Hid (Lc w (((w2.alloc O2).alloc O).alloc (.cells #[.slice (some ⟨w2.heap.size+1,0,none⟩) 0 l.length,.slice (some ⟨w2.heap.size,0,none⟩) 0 l.length,.string hi.key,.int .i64 hi.page,.int .i64 hi.slot] 164)).drew a v r h ao l.length cp (w2.heap.size+1+1) (.slice (some ⟨w2.heap.size+1,0,none⟩) 0 l.length) (.slice (some ⟨w2.heap.size,0,none⟩) 0 l.length) hi [] []):=Lc.firstI HP2.out HC2.out HO2.out (o2 (o2 (o2 (onlyA _ _) (onlyA _ _)) (onlyA _ _)) (Only.drew _ _)) ((Cv.at ((w2.alloc O2).alloc O) _ (by simp) _ _ hi).more (Only.drew _ _)) ((HOWN.out (w2.alloc O2) _ (by simp) (by have:=HO2.out.size; simp; omega)).more (o2 (onlyA _ _) (Only.drew _ _))) ((HOWK.out w2 _ (by simp) (by have:=HO2.out.size; simp; omega)).more (o2 (o2 (onlyA _ _) (onlyA _ _)) (Only.drew _ _))) (by omega)
        refine hK.out _ _ (o2 (o2 (o2 (onlyA _ _) (onlyA _ _)) (onlyA _ _)) (Only.drew _ _)) (fun hHeld=>?_)
        clear hK K
        try simp only [Act.put,lsA,lsB,lsC]
        refine dnN ?_
        go_wp2_with fail
        go_meet
        exact ⟨_,_,_,rfl,HLc⟩
      · go_simp
        refine hK.out _ _ (o2 (o2 (onlyA _ _) (onlyA _ _)) (Only.drew _ _)) (fun hHeld=>?_)
        clear hK K
        try simp only [Act.put,lsA,lsB,lsC]
        refine rd1 3 rfl (fun K hK=>?_)
        go_simp
        refine hK.out _ _ (o2 (o2 (o2 (onlyA _ _) (onlyA _ _)) (onlyA _ _)) (Only.drew _ _)) (fun hHeld=>?_)
        clear hK K
        try simp only [Act.put,lsA,lsB,lsC]
        refine tkP 9 (.agg #[.slice (some ⟨w2.heap.size+1+1,0,none⟩) 0 l.length,.slice (some ⟨w2.heap.size,0,none⟩) 0 l.length,.string hi.key,.int .i64 hi.page,.int .i64 hi.slot]) rfl ?_
        refine rd1 11 rfl (fun K hK=>?_)
        go_simp
        have HLc:Hid (Lc w (((w2.alloc O2).alloc (.cells #[.slice (some ⟨w2.heap.size+1+1,0,none⟩) 0 l.length,.slice (some ⟨w2.heap.size,0,none⟩) 0 l.length,.string hi.key,.int .i64 hi.page,.int .i64 hi.slot] 164)).alloc O).drew a v r h ao l.length cp (w2.heap.size+1) (.slice (some ⟨w2.heap.size+1+1,0,none⟩) 0 l.length) (.slice (some ⟨w2.heap.size,0,none⟩) 0 l.length) hi [] []):=Lc.firstI HP2.out HC2.out HO2.out (o2 (o2 (o2 (onlyA _ _) (onlyA _ _)) (onlyA _ _)) (Only.drew _ _)) ((Cv.at (w2.alloc O2) _ (by simp) _ _ hi).more (o2 (onlyA _ _) (Only.drew _ _))) ((HOWN.out ((w2.alloc O2).alloc (.cells #[.slice (some ⟨w2.heap.size+1+1,0,none⟩) 0 l.length,.slice (some ⟨w2.heap.size,0,none⟩) 0 l.length,.string hi.key,.int .i64 hi.page,.int .i64 hi.slot] 164)) _ (by simp) (by have:=HO2.out.size; simp; omega)).more (Only.drew _ _)) ((HOWK.out w2 _ (by simp) (by have:=HO2.out.size; simp; omega)).more (o2 (o2 (onlyA _ _) (onlyA _ _)) (Only.drew _ _))) (by omega)
        refine hK.out _ _ (o2 (o2 (o2 (onlyA _ _) (onlyA _ _)) (onlyA _ _)) (Only.drew _ _)) (fun hHeld=>?_)
        clear hK K
        try simp only [Act.put,lsA,lsB,lsC]
        refine dnN ?_
        go_wp2_with fail
        go_meet
        exact ⟨_,_,_,rfl,HLc⟩
    · go_simp
      refine hK.out _ _ (o2 (onlyA _ _) (Only.drew _ _)) (fun hHeld=>?_)
      clear hK K
      try simp only [Act.put,lsA,lsB,lsC]
      refine wpAnyH_ready (rs:=[3,7]) (by kernel_rfl) (by simp) ?_
      refine arC rfl (fun K hK=>?_) (arC rfl (fun K hK=>?_) (AllReadyH.nil))
      · go_simp
        refine hK.out _ _ (o2 (o2 (onlyA _ _) (onlyA _ _)) (Only.drew _ _)) (fun hHeld=>?_)
        clear hK K
        try simp only [Act.put,lsA,lsB,lsC]
        refine rd1 7 rfl (fun K hK=>?_)
        go_simp
        refine hK.out _ _ (o2 (o2 (o2 (onlyA _ _) (onlyA _ _)) (onlyA _ _)) (Only.drew _ _)) (fun hHeld=>?_)
        clear hK K
        try simp only [Act.put,lsA,lsB,lsC]
        refine tkP 9 (.agg #[.slice (some ⟨w2.heap.size+1,0,none⟩) 0 l.length,.slice (some ⟨w2.heap.size+1+1,0,none⟩) 0 l.length,.string hi.key,.int .i64 hi.page,.int .i64 hi.slot]) rfl ?_
        refine rd1 11 rfl (fun K hK=>?_)
        go_simp
        have HLc:Hid (Lc w (((w2.alloc (.cells #[.slice (some ⟨w2.heap.size+1,0,none⟩) 0 l.length,.slice (some ⟨w2.heap.size+1+1,0,none⟩) 0 l.length,.string hi.key,.int .i64 hi.page,.int .i64 hi.slot] 164)).alloc O).alloc O2).drew a v r h ao l.length cp (w2.heap.size) (.slice (some ⟨w2.heap.size+1,0,none⟩) 0 l.length) (.slice (some ⟨w2.heap.size+1+1,0,none⟩) 0 l.length) hi [] []):=Lc.firstI HP2.out HC2.out HO2.out (o2 (o2 (o2 (onlyA _ _) (onlyA _ _)) (onlyA _ _)) (Only.drew _ _)) ((Cv.at w2 _ (by simp) _ _ hi).more (o2 (o2 (onlyA _ _) (onlyA _ _)) (Only.drew _ _))) ((HOWN.out (w2.alloc (.cells #[.slice (some ⟨w2.heap.size+1,0,none⟩) 0 l.length,.slice (some ⟨w2.heap.size+1+1,0,none⟩) 0 l.length,.string hi.key,.int .i64 hi.page,.int .i64 hi.slot] 164)) _ (by simp) (by have:=HO2.out.size; simp; omega)).more (o2 (onlyA _ _) (Only.drew _ _))) ((HOWK.out ((w2.alloc (.cells #[.slice (some ⟨w2.heap.size+1,0,none⟩) 0 l.length,.slice (some ⟨w2.heap.size+1+1,0,none⟩) 0 l.length,.string hi.key,.int .i64 hi.page,.int .i64 hi.slot] 164)).alloc O) _ (by simp) (by have:=HO2.out.size; simp; omega)).more (Only.drew _ _)) (by omega)
        refine hK.out _ _ (o2 (o2 (o2 (onlyA _ _) (onlyA _ _)) (onlyA _ _)) (Only.drew _ _)) (fun hHeld=>?_)
        clear hK K
        try simp only [Act.put,lsA,lsB,lsC]
        refine dnN ?_
        go_wp2_with fail
        go_meet
        exact ⟨_,_,_,rfl,HLc⟩
      · go_simp
        refine hK.out _ _ (o2 (o2 (onlyA _ _) (onlyA _ _)) (Only.drew _ _)) (fun hHeld=>?_)
        clear hK K
        try simp only [Act.put,lsA,lsB,lsC]
        refine rd1 3 rfl (fun K hK=>?_)
        go_simp
        refine hK.out _ _ (o2 (o2 (o2 (onlyA _ _) (onlyA _ _)) (onlyA _ _)) (Only.drew _ _)) (fun hHeld=>?_)
        clear hK K
        try simp only [Act.put,lsA,lsB,lsC]
        refine tkP 9 (.agg #[.slice (some ⟨w2.heap.size+1+1,0,none⟩) 0 l.length,.slice (some ⟨w2.heap.size+1,0,none⟩) 0 l.length,.string hi.key,.int .i64 hi.page,.int .i64 hi.slot]) rfl ?_
        refine rd1 11 rfl (fun K hK=>?_)
        go_simp
        have HLc:Hid (Lc w (((w2.alloc (.cells #[.slice (some ⟨w2.heap.size+1+1,0,none⟩) 0 l.length,.slice (some ⟨w2.heap.size+1,0,none⟩) 0 l.length,.string hi.key,.int .i64 hi.page,.int .i64 hi.slot] 164)).alloc O2).alloc O).drew a v r h ao l.length cp (w2.heap.size) (.slice (some ⟨w2.heap.size+1+1,0,none⟩) 0 l.length) (.slice (some ⟨w2.heap.size+1,0,none⟩) 0 l.length) hi [] []):=Lc.firstI HP2.out HC2.out HO2.out (o2 (o2 (o2 (onlyA _ _) (onlyA _ _)) (onlyA _ _)) (Only.drew _ _)) ((Cv.at w2 _ (by simp) _ _ hi).more (o2 (o2 (onlyA _ _) (onlyA _ _)) (Only.drew _ _))) ((HOWN.out ((w2.alloc (.cells #[.slice (some ⟨w2.heap.size+1+1,0,none⟩) 0 l.length,.slice (some ⟨w2.heap.size+1,0,none⟩) 0 l.length,.string hi.key,.int .i64 hi.page,.int .i64 hi.slot] 164)).alloc O2) _ (by simp) (by have:=HO2.out.size; simp; omega)).more (Only.drew _ _)) ((HOWK.out (w2.alloc (.cells #[.slice (some ⟨w2.heap.size+1+1,0,none⟩) 0 l.length,.slice (some ⟨w2.heap.size+1,0,none⟩) 0 l.length,.string hi.key,.int .i64 hi.page,.int .i64 hi.slot] 164)) _ (by simp) (by have:=HO2.out.size; simp; omega)).more (o2 (onlyA _ _) (Only.drew _ _))) (by omega)
        refine hK.out _ _ (o2 (o2 (o2 (onlyA _ _) (onlyA _ _)) (onlyA _ _)) (Only.drew _ _)) (fun hHeld=>?_)
        clear hK K
        try simp only [Act.put,lsA,lsB,lsC]
        refine dnN ?_
        go_wp2_with fail
        go_meet
        exact ⟨_,_,_,rfl,HLc⟩
    -- r4}
  case rest=>
    obtain ⟨c,g,q,rfl,HL0⟩:=hcut
    clear HP2 HC2 HV2 HO2
    have p5:=HL0.out.pag.c5
    go_upto_region 6 with fail
    clear p5
    go_loopw [44] (fun i wr=>∃ (j:Nat) (es:List En) (ks:List Int),j≤l.length∧i=.int .i64 (j:Int)∧es.length=j∧ks.length=j∧Hid (Lc w wr a v r h ao l.length cp c (.slice (some ⟨g,0,none⟩) j l.length) (.slice (some ⟨q,0,none⟩) j l.length) hi es ks)∧Hid ((rdI hi none l).isSome=(rdI hi es.getLast? (l.drop j)).isSome)) (fun i _=>l.length - (intOf i).toNat)
    case atStart=>exact ⟨0,[],[],Nat.zero_le _,rfl,rfl,rfl,HL0,hide rfl⟩
    case round=>
      clear HL0
      obtain ⟨j,es,ks,hj,rfl,hel,hkl,HLj,HRD⟩:=hrel
      by_cases hlt:j < l.length
      · obtain ⟨o,rfl,hc⟩:=(HS.out.more HLj.out.only).at_ (by omega)
        have ck:=hc j hlt
        have hlk:(j:Int) < (l.length:Int):=by omega
        rw [List.drop_eq_getElem_cons hlt] at HRD
        obtain ⟨s,hs⟩:=exq (l[j])
        rw [hs] at ck HRD
        clear hc hs
        cases hd:decS (bl s) with
        | none=>
          have HDC:Hid (∀ W,Calls Tryz.prog 100 #[.string s] W fun e w'=>e=.returned (.tuple #[.agg #[.string ⟨#[]⟩,.int .i64 0,.int .i64 0],.int .i64 0,.int .i64 140])∧Only (fun _=>False) W w'):=fun W=>by
            have:=unsep_any s W
            rw [hd] at this
            exact this
          have HF:Hid ((rdI hi none l).isSome=false):=by
            unfold Hid
            rw [HRD.out,rdI,hd]
            rfl
          clear hd HRD
          go_wp2_with fail
          refine (HDC.out _).mono ?_
          rintro x w2 ⟨rfl,ho⟩
          have HL4:=hide (HLj.out.more ho)
          clear ho ck HLj HDC
          go_upto_region 9 with fail
          have HA:=hide (onlyA w2 (.cells #[.string ⟨#[]⟩,.int .i64 0,.int .i64 0] 89))
          obtain ⟨xb,hxb⟩:=exq (w2.heap.size)
          rw [hxb]
          clear hxb
          obtain ⟨W4,hW4⟩:=exq (w2.alloc (.cells #[.string ⟨#[]⟩,.int .i64 0,.int .i64 0] 89))
          rw [hW4] at HA ⊢
          clear hW4
          have HL5:=hide (HL4.out.more HA.out)
          clear HA HL4
          obtain ⟨r0,r1,r2,r3,r4,f0,f1,f2,f3,f4,_⟩:=HL5.out.res
          go_wp2_with fail
          refine bodyPost_ret (results_cv rfl rfl (HL5.out.res.all _ _ noE)) rfl ?_
          have hfive:=Only.five W4 (w.heap.size+1) (.slice none 0 0) (.slice none 0 0) (.string ⟨#[]⟩) (.int .i64 0) (.int .i64 0)
          rw [HF.out]
          exact ⟨⟨_,_,_,_,_,_,_,rfl⟩,HL5.out.only.trans hfive (fun i hi e=>by omega)⟩
        | some kk=>
          obtain ⟨e,kd⟩:=kk
          have HDC:Hid (∀ W,Calls Tryz.prog 100 #[.string s] W fun x w'=>x=.returned (.tuple #[.agg #[.string e.key,.int .i64 e.page,.int .i64 e.slot],.int .i64 kd,.int .i64 0])∧Only (fun _=>False) W w'):=fun W=>by
            have:=unsep_any s W
            rw [hd] at this
            exact this
          have HFO:Hid (∀ W,Ets W w.heap.size (.slice (some ⟨g,0,none⟩) j l.length) es→Calls Tryz.prog 140 #[.agg #[(.slice (some ⟨g,0,none⟩) j l.length),(.slice (some ⟨q,0,none⟩) j l.length),.string hi.key,.int .i64 hi.page,.int .i64 hi.slot],.agg #[.string e.key,.int .i64 e.page,.int .i64 e.slot]] W fun x w'=>x=.returned (.bool (okI hi es.getLast? e))∧Only (fun _=>False) W w'):=fun W hE=>follows_any W w.heap.size l.length j l.length (some ⟨g,0,none⟩) (some ⟨q,0,none⟩) hi e es j hel (by have:=HLL.out; omega) hE
          have HRE:Hid ((rdI hi none l).isSome=(if okI hi es.getLast? e=true then (rdI hi (some e) (l.drop (j+1))).map (fun ks=>(e,kd) :: ks) else none).isSome):=by
            unfold Hid
            rw [HRD.out,rdI,hd]
          obtain ⟨ok,hok⟩:=exq (okI hi es.getLast? e)
          rw [hok] at HFO HRE
          clear hok hd HRD
          go_wp2_with fail
          refine (HDC.out _).mono ?_
          rintro x w2 ⟨rfl,ho⟩
          have HL4:=hide (HLj.out.more ho)
          clear ho ck HLj HDC
          go_upto_region 9 with fail
          have HA:=hide (onlyA w2 (.cells #[.string e.key,.int .i64 e.page,.int .i64 e.slot] 89))
          have HE4:=hide (Ev.new w2 e)
          obtain ⟨xb,hxb⟩:=exq (w2.heap.size)
          rw [hxb] at HE4 ⊢
          clear hxb
          obtain ⟨W4,hW4⟩:=exq (w2.alloc (.cells #[.string e.key,.int .i64 e.page,.int .i64 e.slot] 89))
          rw [hW4] at HA HE4 ⊢
          clear hW4
          have HL5:=hide (HL4.out.more HA.out)
          clear HA HL4
          obtain ⟨d0,d1,d2,_⟩:=HE4.out
          obtain ⟨q0,q1,q2,q3,q4,_⟩:=HL5.out.con
          go_wp2_with fail
          refine (HFO.out _ HL5.out.ets).mono ?_
          rintro x W6 ⟨rfl,ho⟩
          have HL7:=hide (HL5.out.more ho)
          have HE7:=hide (HE4.out.more ho)
          clear ho d0 d1 d2 q0 q1 q2 q3 q4 HL5 HE4 HFO
          cases ok with
          | false=>
            have HF:Hid ((rdI hi none l).isSome=false):=by
              unfold Hid
              rw [HRE.out]
              rfl
            clear HRE
            obtain ⟨r0,r1,r2,r3,r4,f0,f1,f2,f3,f4,_⟩:=HL7.out.res
            go_wp2_with fail
            refine bodyPost_ret (results_cv rfl rfl (HL7.out.res.all _ _ noE)) rfl ?_
            have hfive:=Only.five W6 (w.heap.size+1) (.slice none 0 0) (.slice none 0 0) (.string ⟨#[]⟩) (.int .i64 0) (.int .i64 0)
            rw [HF.out]
            exact ⟨⟨_,_,_,_,_,_,_,rfl⟩,HL7.out.only.trans hfive (fun i hi e=>by omega)⟩
          | true=>
            have HRN:Hid ((rdI hi none l).isSome=(rdI hi (es++[e]).getLast? (l.drop (j+1))).isSome):=by
              unfold Hid
              rw [HRE.out,if_pos rfl,Option.isSome_map,List.getLast?_concat]
            clear HRE
            have HN7:=hide (onlyA W6 (.cells #[.string e.key,.int .i64 e.page,.int .i64 e.slot] 89))
            have HEA:=(HL7.out.ets.more HN7.out)
            obtain ⟨W8,hr8,he8,ho8⟩:=ets_room _ w.heap.size g j l.length es HEA hel (by omega) e W6.heap.size 0 (Ev.new W6 e).eb
            have HR8:=hide hr8
            have HL8:Hid (Lc w (W8.setCell ⟨c,0,none⟩ (.slice (some ⟨g,0,none⟩) (j+1) l.length)) a v r h (some ⟨B,o,none⟩) l.length cp c (.slice (some ⟨g,0,none⟩) (j+1) l.length) (.slice (some ⟨q,0,none⟩) j l.length) hi (es++[e]) ks):=(HL7.out.more HN7.out).app he8 ho8 (.inl rfl)
            have hcn:¬ (Value.slice (some ⟨g,0,none⟩) j l.length).ownBlock=some c:=fun k=>(HL7.out.dis c k).2.1 rfl
            have hcx:=(HL7.out.con.more HN7.out).kept ho8 hcn
            obtain ⟨d0,d1,d2,_⟩:=HE7.out
            have q0:=HL7.out.con.c0
            have u0:=hcx.c0
            have uf:=hcx.f0
            clear hr8 he8 ho8 hcn hcx HEA HN7
            go_upto_region 12 with (at_builtin; go_must (refine Lib.wpList_append_run _ rfl _ _ _ _ rfl _ _ rfl rfl _ _ HR8.out ?_))
            obtain ⟨W9,hW9⟩:=exq (W8.setCell ⟨c,0,none⟩ (.slice (some ⟨g,0,none⟩) (j+1) l.length))
            rw [hW9] at HL8 ⊢
            clear hW9 d0 d1 d2 q0 u0 uf HL7 HE7 HR8
            have HN9:=hide (onlyA W9 (.cells #[.int .i64 kd] 3))
            have HKA:=(HL8.out.kts.more HN9.out)
            obtain ⟨W10,hr10,he10,ho10⟩:=kts_room _ w.heap.size q j l.length ks HKA hkl (by omega) kd W9.heap.size (by simp)
            have HR10:=hide hr10
            have HL10:Hid (Lc w (W10.setCell ⟨c,1,none⟩ (.slice (some ⟨q,0,none⟩) (j+1) l.length)) a v r h (some ⟨B,o,none⟩) l.length cp c (.slice (some ⟨g,0,none⟩) (j+1) l.length) (.slice (some ⟨q,0,none⟩) (j+1) l.length) hi (es++[e]) (ks++[kd])):=(HL8.out.more HN9.out).appk he10 ho10 (.inl rfl)
            have hcn:¬ (Value.slice (some ⟨q,0,none⟩) j l.length).ownBlock=some c:=fun k=>(HL8.out.diy c k).2.1 rfl
            have hcx:=(HL8.out.con.more HN9.out).kept ho10 hcn
            have q1:=HL8.out.con.c1
            have u1:=hcx.c1
            have uf:=hcx.f1
            clear hr10 he10 ho10 hcn hcx HKA HN9 HL8
            go_wp2_with (at_builtin; go_must (refine Lib.wpList_append_run _ rfl _ _ _ _ rfl _ _ rfl rfl _ _ HR10.out ?_))
            clear q1 u1 uf HR10
            go_roundw
            case rel=>exact ⟨j+1,es++[e],ks++[kd],by omega,by go_num,by rw [List.length_append,hel]; rfl,by rw [List.length_append,hkl]; rfl,HL10,HRN⟩
            case measure=>simp [intOf]; omega
      · have hlk:¬ (j:Int) < (l.length:Int):=by omega
        have HF:Hid ((rdI hi none l).isSome=true):=by
          unfold Hid
          rw [HRD.out,List.drop_of_length_le (by omega),rdI]
          rfl
        clear HRD
        obtain ⟨q0,q1,q2,q3,q4,_⟩:=HLj.out.con
        obtain ⟨r0,r1,r2,r3,r4,f0,f1,f2,f3,f4,_⟩:=HLj.out.res
        go_wp2_with fail
        refine bodyPost_ret (results_cv rfl rfl (HLj.out.res.all _ _ hi)) rfl ?_
        have hfive:=Only.five wr (w.heap.size+1) (.slice (some ⟨g,0,none⟩) j l.length) (.slice (some ⟨q,0,none⟩) j l.length) (.string hi.key) (.int .i64 hi.page) (.int .i64 hi.slot)
        rw [HF.out]
        exact ⟨⟨_,_,_,_,_,_,_,rfl⟩,HLj.out.only.trans hfive (fun i hi e=>by omega)⟩
theorem readInner_no (w:World) (a k v r:Int) (h:ByteArray) (ao:Option Addr) (n cp:Nat) (hb:hdO k v r h=none∨v=0∨n=0) :
    Calls Tryz.prog 98 #[pgv a k v r h ao n cp] w fun e w'=>CvR e false∧Only (fun _=>False) w w':=by
  have HX:=hide (lf_new w (.int .i64 a) (.int .i64 k) (.int .i64 v) (.int .i64 r) (.string h) (.slice ao n cp))
  have HRH:=hide (fun W=>readHead_any W a k v r h ao n cp)
  obtain ⟨H,hH⟩:=exq ((hdO k v r h).getD noE)
  obtain ⟨b,hB⟩:=exq ((hdO k v r h).isSome)
  rw [hH,hB] at HRH
  have hc:b=false∨(b=true∧(v == 0)=true)∨(b=true∧(v == 0)=false∧n=0):=by
    cases b with
    | false=>exact .inl rfl
    | true=>
      refine .inr ?_
      by_cases q:v=0
      · exact .inl ⟨rfl,by simpa using q⟩
      · refine .inr ⟨rfl,by simpa using q,?_⟩
        rcases hb with z | z | z
        · rw [z] at hB
          cases hB
        · exact absurd z q
        · exact z
  clear hb hH hB
  unfold pgv at HRH ⊢
  unfold En.agg at HRH
  go_enter Tryz.func98,Tryz.ntmps98
  go_upto_region 1 with fail
  obtain ⟨W0,hW0⟩:=exq ((w.alloc (.cells #[.int .i64 a,.int .i64 k,.int .i64 v,.int .i64 r,.string h,.slice ao n cp] 37)).alloc (.cells #[.slice none 0 0,.slice none 0 0,.string ⟨#[]⟩,.int .i64 0,.int .i64 0] 164))
  rw [hW0] at HX ⊢
  clear hW0
  obtain ⟨p0,p1,p2,p3,p4,p5,_⟩:=HX.out.1
  go_wp2_with fail
  refine (HRH.out _).mono ?_
  rintro e w1 ⟨rfl,ho⟩
  have HP1:=hide (HX.out.1.more ho)
  have HC1:=hide (HX.out.2.1.more ho)
  have HO1:=hide (o2 HX.out.2.2 ho)
  clear ho p0 p1 p2 p3 p4 p5 HX HRH
  go_upto_region 2 with fail
  have HA:=hide (onlyA w1 (.cells #[.string H.key,.int .i64 H.page,.int .i64 H.slot] 89))
  obtain ⟨w2,hw2⟩:=exq (w1.alloc (.cells #[.string H.key,.int .i64 H.page,.int .i64 H.slot] 89))
  rw [hw2] at HA ⊢
  clear hw2
  have HP2:=hide (HP1.out.more HA.out)
  have HC2:=hide (HC1.out.more HA.out)
  have HO2:=hide (o2 HO1.out HA.out)
  clear HA HP1 HC1 HO1
  have p2:=HP2.out.c2
  have p5:=HP2.out.c5
  obtain ⟨r0,r1,r2,r3,r4,f0,f1,f2,f3,f4,_⟩:=HC2.out
  have hfive:=Only.five w2 (w.heap.size+1) (.slice none 0 0) (.slice none 0 0) (.string ⟨#[]⟩) (.int .i64 0) (.int .i64 0)
  have HO3:Hid (Only (fun _=>False) w _):=HO2.out.trans hfive (fun i hi e=>by omega)
  clear hfive
  rcases hc with rfl | ⟨rfl,hv⟩ | ⟨rfl,hv,rfl⟩
  · go_wp2_with fail
    refine bodyPost_ret (results_cv rfl rfl (HC2.out.all _ _ noE)) rfl ?_
    exact ⟨⟨_,_,_,_,_,_,_,rfl⟩,HO3.out⟩
  · go_wp2_with fail
    refine bodyPost_ret (results_cv rfl rfl (HC2.out.all _ _ noE)) rfl ?_
    exact ⟨⟨_,_,_,_,_,_,_,rfl⟩,HO3.out⟩
  · go_wp2_with fail
    refine bodyPost_ret (results_cv rfl rfl (HC2.out.all _ _ noE)) rfl ?_
    exact ⟨⟨_,_,_,_,_,_,_,rfl⟩,HO3.out⟩
def inB (k v r:Int) (h:ByteArray) (l:List ByteArray):Bool:=match hdO k v r h with
  | none=>false
  | some hi=>!decide (v=0) && (!decide (l=[]) && (rdI hi none l).isSome)
theorem readInner_any (w:World) (a k v r:Int) (h:ByteArray) (B cp:Nat) (ao:Option Addr) (l:List ByteArray) (hS:Strs w B ao l) (hl:l.length≤8796093021952) :
    Calls Tryz.prog 98 #[pgv a k v r h ao l.length cp] w fun e w'=>CvR e (inB k v r h l)∧Only (fun _=>False) w w':=by
  unfold inB
  cases hH:hdO k v r h with
  | none=>exact readInner_no w a k v r h ao l.length cp (.inl hH)
  | some hi=>
    by_cases hv:v=0
    · simp only [decide_eq_true hv,Bool.not_true,Bool.false_and]
      exact readInner_no w a k v r h ao l.length cp (.inr (.inl hv))
    · by_cases hl0:l=[]
      · simp only [decide_eq_false hv,decide_eq_true hl0,Bool.not_true,Bool.false_and,Bool.and_false]
        exact readInner_no w a k v r h ao l.length cp (.inr (.inr (by rw [hl0]; rfl)))
      · simp only [decide_eq_false hv,decide_eq_false hl0,Bool.not_false,Bool.true_and]
        obtain ⟨rfl,_⟩:=hdO_kind hH
        exact readInner_go w a v r h hi B cp ao l hS hv hH hl (List.length_pos_iff.2 hl0)
end Go.Proofs.YtajjakljheafjaaGreat
