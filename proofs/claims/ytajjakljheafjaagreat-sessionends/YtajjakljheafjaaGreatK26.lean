/- Parts. -/
import Derived.Test.YtajjakljheafjaaGreatK11
import Derived.Test.YtajjakljheafjaaGreatK10
import Derived.Deep.DeepAppendRoom
set_option maxRecDepth 100000
namespace Go.Proofs.YtajjakljheafjaaGreat
open Go.RowKit
def CvR (e:Ending) (b:Bool):Prop:=∃ a1 n1 c1 a2 n2 c2 H,e=.returned (.tuple #[cvv (.slice a1 n1 c1) (.slice a2 n2 c2) H,.bool b])
theorem ets_made2 (n:Nat) (hn:n≤8796093021952):∃ O:Obj,(∀ W:World,(Instr.makeSlice 92 (.int .i64 0) (.int .i64 (n:Int))).run Tryz.prog W=.ok (.slice (some ⟨W.heap.size,0,none⟩) 0 n) (W.alloc O)) ∧
    (∀ (W:World) (base:Nat),base≤W.heap.size→Ets (W.alloc O) base (.slice (some ⟨W.heap.size,0,none⟩) 0 n) []):=by
  obtain ⟨i0,hi,hz0,hz1,hz2⟩:=info_parts Tryz.infoEn
  refine ⟨.cells (madeCells (Value.agg #[.string ⟨#[]⟩,.int .i64 0,.int .i64 0]).cells ((n:Int).toNat * i0.size)) 89,fun W=>?_,fun W base hb=>?_⟩
  · have h:=run_make (P:=Tryz.prog) W 92 89 i0 (.agg #[.string ⟨#[]⟩,.int .i64 0,.int .i64 0]) Tryz.underlying92 hi hz0 .i64 .i64 0 (n:Int) (by omega) (by omega) (by rw [hz2]; omega) (by omega)
    simpa using h
  · obtain ⟨w',hmk,hown,hgr⟩:=run_make_own (P:=Tryz.prog) W base 92 89 i0 (.agg #[.string ⟨#[]⟩,.int .i64 0,.int .i64 0]) 3 Tryz.underlying92 hi hz0 hz1 .i64 .i64 n (by rw [hz2]; omega) (by unfold maxLen; omega) hb
    have h:=run_make (P:=Tryz.prog) W 92 89 i0 (.agg #[.string ⟨#[]⟩,.int .i64 0,.int .i64 0]) Tryz.underlying92 hi hz0 .i64 .i64 0 (n:Int) (by omega) (by omega) (by rw [hz2]; omega) (by omega)
    rw [hmk] at h
    simp at h
    subst h
    exact hown
theorem ets_room (w:World) (base g n C:Nat) (es:List En) (h:Ets w base (.slice (some ⟨g,0,none⟩) n C) es) (hn:es.length=n) (hr:n+1≤C) (e:En) (B o:Nat) (hE:Eb w B o e) :
    ∃ w',(Builtin.append_ #[92,92] 92 #[.slice (some ⟨g,0,none⟩) n C,.slice (some ⟨B,o,none⟩) 1 1]).run Tryz.prog w=.ok (.slice (some ⟨g,0,none⟩) (n+1) C) w'∧Ets w' base (.slice (some ⟨g,0,none⟩) (n+1) C) (es++[e])∧Only (fun k=>(Value.slice (some ⟨g,0,none⟩) n C).ownBlock=some k) w w':=by
  obtain ⟨i0,hi,hz0,hz1,hz2⟩:=info_parts Tryz.infoEn
  subst hn
  obtain ⟨w',hr',h2,h3⟩:=run_append_own_spare (P:=Tryz.prog) w base 92 92 89 i0 3 Tryz.underlying92 hi hz1 g es.length C (ecs es) h ⟨B,o,none⟩ 1 1 (ecs [e]) (by rw [ecs_len]; rfl)
    (fun j u hu=>by
      have hj:j < 1 * 3:=by
        have:=(List.getElem?_eq_some_iff.1 hu).1
        rwa [ecs_len] at this
      obtain ⟨a1,a2,a3⟩:=ecs_get [e] 0 (by simp)
      rw [add_at]
      match j,hj with
      | 0,_=>
        rw [show (0:Nat)=0 * 3 from rfl,a1] at hu
        cases hu
        exact hE.c0
      | 1,_=>
        rw [show (1:Nat)=0 * 3+1 from rfl,a2] at hu
        cases hu
        exact hE.c1
      | 2,_=>
        rw [show (2:Nat)=0 * 3+2 from rfl,a3] at hu
        cases hu
        exact hE.c2) (ecs_one [e]) hr
  refine ⟨w',hr',?_,Only.grown h3 (fun j hj=>hj)⟩
  unfold Ets
  rw [ecs_app,List.length_append]
  exact h2
set_option maxHeartbeats 3200000 in
theorem readLeaf_go (w:World) (a r:Int) (h:ByteArray) (hi:En) (B cp:Nat) (ao:Option Addr) (l:List ByteArray) (hS:Strs w B ao l) (hH:hdO 3 0 r h=some hi) (hl:l.length≤8796093021952) :
    Calls Tryz.prog 83 #[pgv a 3 0 r h ao l.length cp] w fun e w'=>CvR e (rdL hi noE l).isSome∧Only (fun _=>False) w w':=by
  have HX:=hide (lf_new w (.int .i64 a) (.int .i64 3) (.int .i64 0) (.int .i64 r) (.string h) (.slice ao l.length cp))
  have HRH:Hid (∀ W,Calls Tryz.prog 124 #[.agg #[.int .i64 a,.int .i64 3,.int .i64 0,.int .i64 r,.string h,.slice ao l.length cp]] W fun e w'=>e=.returned (.tuple #[.agg #[.string hi.key,.int .i64 hi.page,.int .i64 hi.slot],.bool true])∧Only (fun _=>False) W w'):=fun W=>by
    have q:=readHead_any W a 3 0 r h ao l.length cp
    rw [hH] at q
    exact q
  obtain ⟨O,hmk,hown⟩:=ets_made2 l.length hl
  have HOWN:=hide hown
  have HS:=hide hS
  clear hS hH hown
  unfold pgv
  go_enter Tryz.func83,Tryz.ntmps83
  go_upto_region 1 with fail
  obtain ⟨W0,hW0⟩:=exq ((w.alloc (.cells #[.int .i64 a,.int .i64 3,.int .i64 0,.int .i64 r,.string h,.slice ao l.length cp] 37)).alloc (.cells #[.slice none 0 0,.slice none 0 0,.string ⟨#[]⟩,.int .i64 0,.int .i64 0] 164))
  rw [hW0] at HX ⊢
  clear hW0
  obtain ⟨p0,p1,p2,p3,p4,p5,_⟩:=HX.out.1
  go_wp2_with fail
  refine (HRH.out _).mono ?_
  rintro e w1 ⟨rfl,ho⟩
  have HP1:=hide (HX.out.1.more ho)
  have HC1:=hide (HX.out.2.1.more ho)
  have HO1:=hide (o2 HX.out.2.2 ho)
  have HZ1:Hid (w.heap.size+1 < w1.heap.size):=HC1.out.lt
  clear ho p0 p1 p2 p3 p4 p5 HX HRH
  go_upto_region 2 with fail
  have HA:=hide (onlyA w1 (.cells #[.string hi.key,.int .i64 hi.page,.int .i64 hi.slot] 89))
  have HV2:=hide (Ev.new w1 hi)
  obtain ⟨b4,hb4⟩:=exq (w1.heap.size)
  rw [hb4] at HZ1 HV2 ⊢
  clear hb4
  obtain ⟨w2,hw2⟩:=exq (w1.alloc (.cells #[.string hi.key,.int .i64 hi.page,.int .i64 hi.slot] 89))
  rw [hw2] at HA HV2 ⊢
  clear hw2
  have HP2:=hide (HP1.out.more HA.out)
  have HC2:=hide (HC1.out.more HA.out)
  have HO2:=hide (o2 HO1.out HA.out)
  have HZ2:Hid (w.heap.size+1 < w2.heap.size):=HC2.out.lt
  clear HA HP1 HC1 HO1
  have p2:=HP2.out.c2
  go_upto_region 4 with fail
  clear p2
  go_cut [6] (fun p wx=>∃ c g,p=.pointer (some ⟨c,0,none⟩)∧Hid (Lc w wx a 0 r h ao l.length cp c (.slice (some ⟨g,0,none⟩) 0 l.length) (.slice none 0 0) hi [] []))
  case first=>
    -- {r4
    refine wp_region_noPanic ?_
    refine wp_region_held_drew (S:=fun W=>Only (fun _=>False) w2 W) (by kernel_rfl) (Only.drew _ _) (fun hHeld=>?_)
    refine tkP 0 (.pointer (some ⟨w.heap.size,5,none⟩)) rfl ?_
    refine tkQ 4 (.agg #[.string hi.key,.int .i64 hi.page,.int .i64 hi.slot]) rfl (yieldsIf_load_ev (by rfl) _ rfl rfl (fun W hW=>HV2.out.more hW)) ?_
    refine tkQ 1 (.slice ao l.length cp) rfl (yieldsIf_load_cell (by rfl) 35 _ rfl _ rfl (fun W hW=>(HP2.out.more hW).c5) (fun W hc=>ld_strings hc)) ?_
    refine tkP 2 (.int .i64 (l.length:Int)) rfl ?_
    refine wpAnyH_ready (rs:=[3,6]) (by kernel_rfl) (by simp) ?_
    refine arC rfl (fun K hK=>?_) (arC rfl (fun K hK=>?_) (AllReadyH.nil))
    · go_simp
      refine hK.out _ _ (o2 (onlyA _ _) (Only.drew _ _)) (fun hHeld=>?_)
      clear hK K
      try simp only [Act.put,lsA,lsB,lsC]
      refine tkP 5 (.agg #[.slice (some ⟨w2.heap.size,0,none⟩) 0 l.length,.slice none 0 0,.string hi.key,.int .i64 hi.page,.int .i64 hi.slot]) rfl ?_
      refine rd1 6 rfl (fun K hK=>?_)
      go_simp
      refine hK.out _ _ (o2 (o2 (onlyA _ _) (onlyA _ _)) (Only.drew _ _)) (fun hHeld=>?_)
      clear hK K
      try simp only [Act.put,lsA,lsB,lsC]
      refine rd1 7 rfl (fun K hK=>?_)
      go_simp
      have HLc:=hide (lc_A (hi:=hi) HP2.out HC2.out HO2.out HOWN.out)
      refine hK.out _ _ (o2 (o2 (onlyA _ _) (onlyA _ _)) (Only.drew _ _)) (fun hHeld=>?_)
      clear hK K
      try simp only [Act.put,lsA,lsB,lsC]
      refine dnN ?_
      go_wp2_with fail
      go_meet
      exact ⟨_,_,rfl,HLc⟩
    · go_simp
      refine hK.out _ _ (o2 (onlyA _ _) (Only.drew _ _)) (fun hHeld=>?_)
      clear hK K
      try simp only [Act.put,lsA,lsB,lsC]
      refine rd1 3 rfl (fun K hK=>?_)
      go_simp
      refine hK.out _ _ (o2 (o2 (onlyA _ _) (onlyA _ _)) (Only.drew _ _)) (fun hHeld=>?_)
      clear hK K
      try simp only [Act.put,lsA,lsB,lsC]
      refine tkP 5 (.agg #[.slice (some ⟨w2.heap.size+1,0,none⟩) 0 l.length,.slice none 0 0,.string hi.key,.int .i64 hi.page,.int .i64 hi.slot]) rfl ?_
      refine rd1 7 rfl (fun K hK=>?_)
      go_simp
      have HLc:=hide (lc_B (hi:=hi) HP2.out HC2.out HO2.out HOWN.out)
      refine hK.out _ _ (o2 (o2 (onlyA _ _) (onlyA _ _)) (Only.drew _ _)) (fun hHeld=>?_)
      clear hK K
      try simp only [Act.put,lsA,lsB,lsC]
      refine dnN ?_
      go_wp2_with fail
      go_meet
      exact ⟨_,_,rfl,HLc⟩
    -- r4}
  case rest=>
    obtain ⟨c,g,rfl,HL0⟩:=hcut
    clear HP2 HC2 HV2 HO2
    go_upto_region 6 with fail
    have HA:=hide (onlyA wc (.cells #[.string ⟨#[]⟩,.int .i64 0,.int .i64 0] 89))
    have HE0:=hide (Ev.zero wc)
    have HG0:Hid (g < wc.heap.size∧c < wc.heap.size∧w.heap.size+1 < wc.heap.size):=⟨(HL0.out.dis g rfl).2.2.2,HL0.out.con.lt,HL0.out.res.lt⟩
    obtain ⟨lb,hlb⟩:=exq (wc.heap.size)
    rw [hlb] at HE0 HG0 ⊢
    clear hlb
    obtain ⟨W3,hW3⟩:=exq (wc.alloc (.cells #[.string ⟨#[]⟩,.int .i64 0,.int .i64 0] 89))
    rw [hW3] at HA HE0 ⊢
    clear hW3
    have HL3:=hide (HL0.out.more HA.out)
    have hgn:∀ k,(Value.slice (some ⟨g,0,none⟩) 0 l.length).ownBlock=some k→k≠lb:=by
      intro k hk
      have:g=k:=by simpa [Value.ownBlock] using hk
      have:=HG0.out
      omega
    have HM3:Hid (Ll w W3 c lb (.slice (some ⟨g,0,none⟩) 0 l.length) noE):=⟨HE0.out,hgn,by have:=HG0.out; omega,HG0.out.2.2⟩
    clear hgn
    clear HA HE0 HG0 HL0
    have p5:=HL3.out.pag.c5
    go_upto_region 7 with fail
    clear p5
    go_loopw [35] (fun i wr=>∃ (j:Nat) (es:List En) (la:En),j≤l.length∧i=.int .i64 (j:Int)∧es.length=j∧Hid (Lc w wr a 0 r h ao l.length cp c (.slice (some ⟨g,0,none⟩) j l.length) (.slice none 0 0) hi es [])∧Hid (Ll w wr c lb (.slice (some ⟨g,0,none⟩) j l.length) la)∧Hid ((rdL hi noE l).isSome=(rdL hi la (l.drop j)).isSome)) (fun i _=>l.length - (intOf i).toNat)
    case atStart=>exact ⟨0,[],noE,Nat.zero_le _,rfl,rfl,HL3,HM3,hide rfl⟩
    case round=>
      clear HL3 HM3
      obtain ⟨j,es,la,hj,rfl,hel,HLj,HMj,HRD⟩:=hrel
      by_cases hlt:j < l.length
      · obtain ⟨o,rfl,hc⟩:=(HS.out.more HLj.out.only).at_ (by omega)
        have ck:=hc j hlt
        have hlk:(j:Int) < (l.length:Int):=by omega
        rw [List.drop_eq_getElem_cons hlt] at HRD
        obtain ⟨s,hs⟩:=exq (l[j])
        rw [hs] at ck HRD
        clear hc hs
        cases hd:decE (bl s) with
        | none=>
          have HDC:Hid (∀ W,Calls Tryz.prog 99 #[.string s] W fun e w'=>e=.returned (.tuple #[.agg #[.string ⟨#[]⟩,.int .i64 0,.int .i64 0],.int .i64 140])∧Only (fun _=>False) W w'):=fun W=>by
            have:=decode_any s W
            rw [hd] at this
            exact this
          have HF:Hid ((rdL hi noE l).isSome=false):=by
            unfold Hid
            rw [HRD.out,rdL,hd]
            rfl
          clear hd HRD
          go_wp2_with fail
          refine (HDC.out _).mono ?_
          rintro x w2 ⟨rfl,ho⟩
          have HL4:=hide (HLj.out.more ho)
          clear ho ck HLj HMj HDC
          go_upto_region 10 with fail
          have HA:=hide (onlyA w2 (.cells #[.string ⟨#[]⟩,.int .i64 0,.int .i64 0] 89))
          obtain ⟨xb,hxb⟩:=exq (w2.heap.size)
          rw [hxb]
          clear hxb
          obtain ⟨W4,hW4⟩:=exq (w2.alloc (.cells #[.string ⟨#[]⟩,.int .i64 0,.int .i64 0] 89))
          rw [hW4] at HA ⊢
          clear hW4
          have HL5:=hide (HL4.out.more HA.out)
          clear HA HL4
          obtain ⟨r0,r1,r2,r3,r4,f0,f1,f2,f3,f4,_⟩:=HL5.out.res
          go_wp2_with fail
          refine bodyPost_ret (results_cv rfl rfl (HL5.out.res.all _ _ noE)) rfl ?_
          have hfive:=Only.five W4 (w.heap.size+1) (.slice none 0 0) (.slice none 0 0) (.string ⟨#[]⟩) (.int .i64 0) (.int .i64 0)
          rw [HF.out]
          exact ⟨⟨_,_,_,_,_,_,_,rfl⟩,HL5.out.only.trans hfive (fun i hi e=>by omega)⟩
        | some e=>
          have HDC:Hid (∀ W,Calls Tryz.prog 99 #[.string s] W fun x w'=>x=.returned (.tuple #[.agg #[.string e.key,.int .i64 e.page,.int .i64 e.slot],.int .i64 0])∧Only (fun _=>False) W w'):=fun W=>by
            have:=decode_any s W
            rw [hd] at this
            exact this
          have HCM:Hid (∀ W,Calls Tryz.prog 125 #[.agg #[.string e.key,.int .i64 e.page,.int .i64 e.slot],.agg #[.string la.key,.int .i64 la.page,.int .i64 la.slot]] W fun x w'=>x=.returned (.int .i64 (cmpE e la))∧Only (fun _=>False) W w'):=fun W=>compare_any e la W
          have HBY:Hid (∀ W (A1:Option Addr) (C1:Nat),Calls Tryz.prog 85 #[.agg #[.slice A1 j C1,.slice none 0 0,.string hi.key,.int .i64 hi.page,.int .i64 hi.slot],.agg #[.string e.key,.int .i64 e.page,.int .i64 e.slot]] W fun x w'=>x=.returned (.bool (byd hi e))∧Only (fun _=>False) W w'):=fun W A1 C1=>isBeyond_any W A1 none j 0 C1 0 hi e
          have HRE:Hid ((rdL hi noE l).isSome=(if la.lt e∧byd hi e=false then (rdL hi e (l.drop (j+1))).map (fun es=>e :: es) else none).isSome):=by
            unfold Hid
            rw [HRD.out,rdL,hd]
          have HZP:Hid (0 < cmpE e la ↔ la.lt e):=cmpE_pos
          obtain ⟨z,hz⟩:=exq (cmpE e la)
          rw [hz] at HCM HZP
          clear hz hd HRD
          go_wp2_with fail
          refine (HDC.out _).mono ?_
          rintro x w2 ⟨rfl,ho⟩
          have HL4:=hide (HLj.out.more ho)
          have HM4:=hide (HMj.out.more ho)
          clear ho ck HLj HMj HDC
          go_upto_region 10 with fail
          have HA:=hide (onlyA w2 (.cells #[.string e.key,.int .i64 e.page,.int .i64 e.slot] 89))
          have HE4:=hide (Ev.new w2 e)
          have HXC:Hid (c < w2.heap.size∧lb < w2.heap.size∧∀ k,(Value.slice (some ⟨g,0,none⟩) j l.length).ownBlock=some k→k < w2.heap.size):=⟨HL4.out.con.lt,HM4.out.ev.lt,fun k hk=>(HL4.out.dis k hk).2.2.2⟩
          obtain ⟨xb,hxb⟩:=exq (w2.heap.size)
          rw [hxb] at HE4 HXC ⊢
          clear hxb
          obtain ⟨W4,hW4⟩:=exq (w2.alloc (.cells #[.string e.key,.int .i64 e.page,.int .i64 e.slot] 89))
          rw [hW4] at HA HE4 ⊢
          clear hW4
          have HL5:=hide (HL4.out.more HA.out)
          have HM5:=hide (HM4.out.more HA.out)
          clear HA HL4 HM4
          obtain ⟨d0,d1,d2,_⟩:=HE4.out
          obtain ⟨t0,t1,t2,_⟩:=HM5.out.ev
          go_wp2_with fail
          refine (HCM.out _).mono ?_
          rintro x W5 ⟨rfl,ho⟩
          have HL6:=hide (HL5.out.more ho)
          have HM6:=hide (HM5.out.more ho)
          have HE6:=hide (HE4.out.more ho)
          clear ho d0 d1 d2 t0 t1 t2 HL5 HM5 HE4 HCM
          by_cases hz0:z≤0
          · have HF:Hid ((rdL hi noE l).isSome=false):=by
              unfold Hid
              rw [HRE.out,if_neg (fun k=>by have:=HZP.out.2 k.1; omega)]
              rfl
            clear HRE HZP
            obtain ⟨r0,r1,r2,r3,r4,f0,f1,f2,f3,f4,_⟩:=HL6.out.res
            go_wp2_with fail
            refine bodyPost_ret (results_cv rfl rfl (HL6.out.res.all _ _ noE)) rfl ?_
            have hfive:=Only.five W5 (w.heap.size+1) (.slice none 0 0) (.slice none 0 0) (.string ⟨#[]⟩) (.int .i64 0) (.int .i64 0)
            rw [HF.out]
            exact ⟨⟨_,_,_,_,_,_,_,rfl⟩,HL6.out.only.trans hfive (fun i hi e=>by omega)⟩
          · obtain ⟨d0,d1,d2,_⟩:=HE6.out
            obtain ⟨q0,q1,q2,q3,q4,_⟩:=HL6.out.con
            go_wp2_with fail
            refine (HBY.out _ _ _).mono ?_
            rintro x W6 ⟨rfl,ho⟩
            have HL7:=hide (HL6.out.more ho)
            have HM7:=hide (HM6.out.more ho)
            have HE7:=hide (HE6.out.more ho)
            clear ho d0 d1 d2 q0 q1 q2 q3 q4 HL6 HM6 HE6 HBY
            cases hb:byd hi e with
            | true=>
              have HF:Hid ((rdL hi noE l).isSome=false):=by
                unfold Hid
                rw [HRE.out,if_neg (fun k=>by rw [hb] at k; cases k.2)]
                rfl
              clear HRE HZP hb
              obtain ⟨r0,r1,r2,r3,r4,f0,f1,f2,f3,f4,_⟩:=HL7.out.res
              go_wp2_with fail
              refine bodyPost_ret (results_cv rfl rfl (HL7.out.res.all _ _ noE)) rfl ?_
              have hfive:=Only.five W6 (w.heap.size+1) (.slice none 0 0) (.slice none 0 0) (.string ⟨#[]⟩) (.int .i64 0) (.int .i64 0)
              rw [HF.out]
              exact ⟨⟨_,_,_,_,_,_,_,rfl⟩,HL7.out.only.trans hfive (fun i hi e=>by omega)⟩
            | false=>
              have HRN:Hid ((rdL hi noE l).isSome=(rdL hi e (l.drop (j+1))).isSome):=by
                unfold Hid
                rw [HRE.out,if_pos ⟨HZP.out.1 (by omega),hb⟩,Option.isSome_map]
              clear HRE HZP hb
              have HN7:=hide (onlyA W6 (.cells #[.string e.key,.int .i64 e.page,.int .i64 e.slot] 89))
              have HEA:=(HL7.out.ets.more HN7.out)
              obtain ⟨W8,hr8,he8,ho8⟩:=ets_room _ w.heap.size g j l.length es HEA hel (by omega) e W6.heap.size 0 (Ev.new W6 e).eb
              have HR8:=hide hr8
              have HL8:Hid (Lc w (W8.setCell ⟨c,0,none⟩ (.slice (some ⟨g,0,none⟩) (j+1) l.length)) a 0 r h (some ⟨B,o,none⟩) l.length cp c (.slice (some ⟨g,0,none⟩) (j+1) l.length) (.slice none 0 0) hi (es++[e]) []):=(HL7.out.more HN7.out).app he8 ho8 (.inl rfl)
              have hcn:¬ (Value.slice (some ⟨g,0,none⟩) j l.length).ownBlock=some c:=fun k=>(HL7.out.dis c k).2.1 rfl
              have hcx:=(HL7.out.con.more HN7.out).kept ho8 hcn
              have HO8:Hid (Only (fun k=>(Value.slice (some ⟨g,0,none⟩) j l.length).ownBlock=some k∨k=c) W6 (W8.setCell ⟨c,0,none⟩ (.slice (some ⟨g,0,none⟩) (j+1) l.length))):=((HN7.out.mono (fun _ _ h=>h.elim)).trans (ho8.mono (fun _ _ h=>.inl h)) (fun _ _ h=>h)).trans ((Only.setCell W8 ⟨c,0,none⟩ _ rfl).mono (fun _ _ h=>.inr h.symm)) (fun _ _ h=>h)
              have HE8:=hide (HE7.out.kept HO8.out (by
                rintro (k | k)
                · have:=HXC.out.2.2 _ k; omega
                · have:=HXC.out.1; omega))
              have HV8:=hide (HM7.out.ev.kept HO8.out (by
                rintro (k | k)
                · exact HM7.out.ne _ k rfl
                · exact HM7.out.nc k.symm))
              have HNE:Hid ((∀ k,(Value.slice (some ⟨g,0,none⟩) (j+1) l.length).ownBlock=some k→k≠lb)∧c≠lb∧w.heap.size+1 < lb):=⟨fun k hk=>HM7.out.ne k hk,HM7.out.nc,HM7.out.lo⟩
              obtain ⟨d0,d1,d2,_⟩:=HE7.out
              have q0:=HL7.out.con.c0
              have u0:=hcx.c0
              have uf:=hcx.f0
              clear hr8 he8 ho8 hcn hcx HEA HN7 HM7 HO8 HXC
              go_upto_region 13 with (at_builtin; go_must (refine Lib.wpList_append_run _ rfl _ _ _ _ rfl _ _ rfl rfl _ _ HR8.out ?_))
              obtain ⟨W9,hW9⟩:=exq (W8.setCell ⟨c,0,none⟩ (.slice (some ⟨g,0,none⟩) (j+1) l.length))
              rw [hW9] at HL8 HE8 HV8 ⊢
              clear hW9 d0 d1 d2 q0 u0 uf HL7 HE7 HR8
              obtain ⟨d0,d1,d2,_⟩:=HE8.out
              obtain ⟨t0,t1,t2,f0,f1,f2,_⟩:=HV8.out
              go_wp2_with fail
              have HV9:=hide (HV8.out.all e)
              have HL9:Hid (Lc w (((W9.setCell ⟨lb,0,none⟩ (.string e.key)).setCell ⟨lb,1,none⟩ (.int .i64 e.page)).setCell ⟨lb,2,none⟩ (.int .i64 e.slot)) a 0 r h (some ⟨B,o,none⟩) l.length cp c (.slice (some ⟨g,0,none⟩) (j+1) l.length) (.slice none 0 0) hi (es++[e]) []):=HL8.out.kept (Only.three W9 lb _ _ _) (fun k hk=>by have:=HNE.out.2.2; omega) HNE.out.2.1 (fun k hk=>HNE.out.1 k hk) (fun k hk=>nomatch hk)
              have HM9:Hid (Ll w _ c lb (.slice (some ⟨g,0,none⟩) (j+1) l.length) e):=⟨HV9.out,HNE.out.1,HNE.out.2.1,HNE.out.2.2⟩
              clear d0 d1 d2 t0 t1 t2 f0 f1 f2 HL8 HE8 HV8 HV9
              go_roundw
              case rel=>exact ⟨j+1,es++[e],e,by omega,by go_num,by rw [List.length_append,hel]; rfl,HL9,HM9,HRN⟩
              case measure=>simp [intOf]; omega
      · have hlk:¬ (j:Int) < (l.length:Int):=by omega
        have HF:Hid ((rdL hi noE l).isSome=true):=by
          unfold Hid
          rw [HRD.out,List.drop_of_length_le (by omega),rdL]
          rfl
        clear HRD
        obtain ⟨q0,q1,q2,q3,q4,_⟩:=HLj.out.con
        obtain ⟨r0,r1,r2,r3,r4,f0,f1,f2,f3,f4,_⟩:=HLj.out.res
        go_wp2_with fail
        refine bodyPost_ret (results_cv rfl rfl (HLj.out.res.all _ _ hi)) rfl ?_
        have hfive:=Only.five wr (w.heap.size+1) (.slice (some ⟨g,0,none⟩) j l.length) (.slice none 0 0) (.string hi.key) (.int .i64 hi.page) (.int .i64 hi.slot)
        rw [HF.out]
        exact ⟨⟨_,_,_,_,_,_,_,rfl⟩,HLj.out.only.trans hfive (fun i hi e=>by omega)⟩
theorem readLeaf_no (w:World) (a k v r:Int) (h:ByteArray) (ao:Option Addr) (n cp:Nat) (hb:hdO k v r h=none∨¬ v=0) :
    Calls Tryz.prog 83 #[pgv a k v r h ao n cp] w fun e w'=>CvR e false∧Only (fun _=>False) w w':=by
  have HX:=hide (lf_new w (.int .i64 a) (.int .i64 k) (.int .i64 v) (.int .i64 r) (.string h) (.slice ao n cp))
  have HRH:=hide (fun W=>readHead_any W a k v r h ao n cp)
  obtain ⟨H,hH⟩:=exq ((hdO k v r h).getD noE)
  obtain ⟨b,hB⟩:=exq ((hdO k v r h).isSome)
  rw [hH,hB] at HRH
  have hc:b=false∨(b=true∧(v == 0)=false):=by
    rcases hb with q | q
    · rw [q] at hB
      exact .inl hB.symm
    · cases b with
      | false=>exact .inl rfl
      | true=>exact .inr ⟨rfl,by simpa using q⟩
  clear hb hH hB
  unfold pgv at HRH ⊢
  unfold En.agg at HRH
  go_enter Tryz.func83,Tryz.ntmps83
  go_upto_region 1 with fail
  obtain ⟨W0,hW0⟩:=exq ((w.alloc (.cells #[.int .i64 a,.int .i64 k,.int .i64 v,.int .i64 r,.string h,.slice ao n cp] 37)).alloc (.cells #[.slice none 0 0,.slice none 0 0,.string ⟨#[]⟩,.int .i64 0,.int .i64 0] 164))
  rw [hW0] at HX ⊢
  clear hW0
  obtain ⟨p0,p1,p2,p3,p4,p5,_⟩:=HX.out.1
  go_wp2_with fail
  refine (HRH.out _).mono ?_
  rintro e w1 ⟨rfl,ho⟩
  have HP1:=hide (HX.out.1.more ho)
  have HC1:=hide (HX.out.2.1.more ho)
  have HO1:=hide (o2 HX.out.2.2 ho)
  clear ho p0 p1 p2 p3 p4 p5 HX HRH
  go_upto_region 2 with fail
  have HA:=hide (onlyA w1 (.cells #[.string H.key,.int .i64 H.page,.int .i64 H.slot] 89))
  obtain ⟨w2,hw2⟩:=exq (w1.alloc (.cells #[.string H.key,.int .i64 H.page,.int .i64 H.slot] 89))
  rw [hw2] at HA ⊢
  clear hw2
  have HP2:=hide (HP1.out.more HA.out)
  have HC2:=hide (HC1.out.more HA.out)
  have HO2:=hide (o2 HO1.out HA.out)
  clear HA HP1 HC1 HO1
  have p2:=HP2.out.c2
  obtain ⟨r0,r1,r2,r3,r4,f0,f1,f2,f3,f4,_⟩:=HC2.out
  have hfive:=Only.five w2 (w.heap.size+1) (.slice none 0 0) (.slice none 0 0) (.string ⟨#[]⟩) (.int .i64 0) (.int .i64 0)
  have HO3:Hid (Only (fun _=>False) w _):=HO2.out.trans hfive (fun i hi e=>by omega)
  clear hfive
  rcases hc with rfl | ⟨rfl,hv⟩
  · go_wp2_with fail
    refine bodyPost_ret (results_cv rfl rfl (HC2.out.all _ _ noE)) rfl ?_
    exact ⟨⟨_,_,_,_,_,_,_,rfl⟩,HO3.out⟩
  · go_wp2_with fail
    refine bodyPost_ret (results_cv rfl rfl (HC2.out.all _ _ noE)) rfl ?_
    exact ⟨⟨_,_,_,_,_,_,_,rfl⟩,HO3.out⟩
theorem hdO_kind {k v r:Int} {h:ByteArray} {hi:En} (q:hdO k v r h=some hi):k=3∧0≤v∧v≤255∧0≤r∧r≤65535:=by
  unfold hdO at q
  by_cases c:k=3∧0≤v∧v≤255∧0≤r∧r≤65535
  · exact c
  · rw [if_neg c] at q
    cases q
def lfB (k v r:Int) (h:ByteArray) (l:List ByteArray):Bool:=match hdO k v r h with
  | none=>false
  | some hi=>decide (v=0) && (rdL hi noE l).isSome
theorem readLeaf_any (w:World) (a k v r:Int) (h:ByteArray) (B cp:Nat) (ao:Option Addr) (l:List ByteArray) (hS:Strs w B ao l) (hl:l.length≤8796093021952) :
    Calls Tryz.prog 83 #[pgv a k v r h ao l.length cp] w fun e w'=>CvR e (lfB k v r h l)∧Only (fun _=>False) w w':=by
  unfold lfB
  cases hH:hdO k v r h with
  | none=>exact readLeaf_no w a k v r h ao l.length cp (.inl hH)
  | some hi=>
    by_cases hv:v=0
    · obtain ⟨rfl,_⟩:=hdO_kind hH
      subst hv
      simp only [decide_true,Bool.true_and]
      exact readLeaf_go w a r h hi B cp ao l hS hH hl
    · simp only [decide_eq_false hv,Bool.false_and]
      exact readLeaf_no w a k v r h ao l.length cp (.inr hv)
end Go.Proofs.YtajjakljheafjaaGreat
