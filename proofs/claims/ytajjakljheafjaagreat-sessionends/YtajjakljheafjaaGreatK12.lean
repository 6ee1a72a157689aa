/- Parts. -/
import Derived.Test.YtajjakljheafjaaGreatK11
import Derived.Test.YtajjakljheafjaaGreatK10
set_option maxRecDepth 100000
namespace Go.Proofs.YtajjakljheafjaaGreat
open Go.RowKit
theorem Lc.appk {w W W1:World} {a v r:Int} {h:ByteArray} {ao:Option Addr} {n cp cb:Nat} {x y y':Value} {hi:En} {es:List En} {ks ks':List Int} (H:Lc w W a v r h ao n cp cb x y hi es ks) (he:Kts W1 w.heap.size y' ks') (ho:Only (fun j=>y.ownBlock=some j) W W1) (hx:y'.ownBlock=y.ownBlock∨∃ g,y'.ownBlock=some g∧W.heap.size≤g∧g < W1.heap.size):Lc w (W1.setCell ⟨cb,1,none⟩ y') a v r h ao n cp cb x y' hi es ks':=by
  have hs:Only (fun k=>k=cb) W1 (W1.setCell ⟨cb,1,none⟩ y'):=Only.setCell W1 ⟨cb,1,none⟩ y' rfl
  have hcl:=H.cbl
  have hlt:=H.con.lt
  have d1:¬ y.ownBlock=some (w.heap.size):=fun e=>by have:=(H.diy _ e).1; omega
  have d2:¬ y.ownBlock=some (w.heap.size+1):=fun e=>by have:=(H.diy _ e).1; omega
  have d3:¬ y.ownBlock=some cb:=fun e=>(H.diy _ e).2.1 rfl
  have hy:∀ k,x.ownBlock=some k→¬ y.ownBlock=some k:=fun k hk=>(H.dis k hk).2.2.1
  have hyn:∀ k,y'.ownBlock=some k→w.heap.size+1 < k∧k≠cb∧x.ownBlock≠some k∧k < W1.heap.size:=by
    intro k hk
    rcases hx with e | ⟨g,e,hg,hg2⟩
    · rw [e] at hk
      have:=H.diy k hk
      exact ⟨this.1,this.2.1,fun hxk=>hy k hxk hk,Nat.lt_of_lt_of_le this.2.2 ho.size⟩
    · rw [e] at hk
      cases hk
      refine ⟨by omega,by omega,fun hyk=>?_,hg2⟩
      have:=(H.dis _ hyk).2.2.2
      omega
  refine ⟨(H.pag.kept ho d1).kept hs (by omega),(H.res.kept ho d2).kept hs (by omega),(H.con.kept ho d3).s1 y',(H.ets.kept ho hy).kept hs (fun k hk=>(H.dis k hk).2.1),he.kept hs (fun k hk=>(hyn k hk).2.1),fun k hk=>?_,fun k hk=>?_,H.cbl,?_⟩
  · have:=H.dis k hk
    exact ⟨this.1,this.2.1,fun hyk=>(hyn k hyk).2.2.1 hk,Nat.lt_of_lt_of_le (Nat.lt_of_lt_of_le this.2.2.2 ho.size) hs.size⟩
  · have:=hyn k hk
    exact ⟨this.1,this.2.1,Nat.lt_of_lt_of_le this.2.2.2 hs.size⟩
  · exact (H.only.trans ho (fun i hi e=>by have:=(H.diy _ e).1; omega)).trans hs (fun i hi e=>by omega)
def InR (w w':World) (e:Ending) (hi:En) (ks:List (En × Int)):Prop:=∃ A C A2 C2,e=.returned (.tuple #[cvv (.slice A ks.length C) (.slice A2 ks.length C2) hi,.bool true])∧Ets w' w.heap.size (.slice A ks.length C) (ks.map Prod.fst)∧Kts w' w.heap.size (.slice A2 ks.length C2) (ks.map Prod.snd)∧Only (fun _=>False) w w'
theorem Cv.at (w:World) (b:Nat) (hb:b=w.heap.size) (es ks:Value) (h:En):Cv (w.alloc (.cells #[es,ks,.string h.key,.int .i64 h.page,.int .i64 h.slot] 164)) b es ks h:=by subst hb; exact Cv.new w es ks h
theorem Lc.firstI {w w2 W:World} {a v r:Int} {h:ByteArray} {ao:Option Addr} {n cp:Nat} {g q c:Nat} {hi:En} (hp:Pag w2 w.heap.size (.int .i64 a) (.int .i64 3) (.int .i64 v) (.int .i64 r) (.string h) (.slice ao n cp)) (hr:Cv w2 (w.heap.size+1) (.slice none 0 0) (.slice none 0 0) noE) (ho:Only (fun _=>False) w w2) (o:Only (fun _=>False) w2 W) (hc:Cv W c (.slice (some ⟨g,0,none⟩) 0 n) (.slice (some ⟨q,0,none⟩) 0 n) hi) (he:Ets W w.heap.size (.slice (some ⟨g,0,none⟩) 0 n) []) (hk:Kts W w.heap.size (.slice (some ⟨q,0,none⟩) 0 n) []) (h1:w2.heap.size≤g∧w2.heap.size≤q∧w2.heap.size≤c∧g≠q∧g≠c∧q≠c) :
    Lc w W a v r h ao n cp c (.slice (some ⟨g,0,none⟩) 0 n) (.slice (some ⟨q,0,none⟩) 0 n) hi [] []:=by
  have hz:=hr.lt
  refine ⟨hp.more o,hr.more o,hc,he,hk,fun k hx=>?_,fun k hx=>?_,by omega,o2 ho o⟩
  · have hl:=(World.ownsRow.lt he k hx).2
    have:g=k:=by simpa [Value.ownBlock] using hx
    subst this
    exact ⟨by omega,by omega,by simp [Value.ownBlock]; omega,hl⟩
  · have hl:=(World.ownsRow.lt hk k hx).2
    have:q=k:=by simpa [Value.ownBlock] using hx
    subst this
    exact ⟨by omega,by omega,hl⟩
theorem InIs.len {hi:En} {l:List ByteArray} {ks:List (En × Int)} (h:InIs hi l ks):l.length=ks.length:=by rw [h.items,List.length_map]
theorem InIs.sp {hi:En} {l:List ByteArray} {ks:List (En × Int)} (h:InIs hi l ks) (k:En × Int) (hk:k ∈ ks):k.1.sp=true:=by
  obtain ⟨c,r,e⟩:=h.first
  have h4:=h.ok
  rw [e] at hk h4
  rcases List.mem_cons.1 hk with rfl | hk
  · exact En.sp_iff.2 (.inl rfl)
  · exact En.sp_iff.2 (.inr (h4 k hk).1)
theorem InIs.at_ {hi:En} {l:List ByteArray} {ks:List (En × Int)} (h:InIs hi l ks) (j:Nat) (hj:j < l.length) (hj':j < ks.length):decS (bl l[j])=some ks[j]:=by
  have e:l[j]=ks[j].1.encS ks[j].2:=by
    have:=h.items
    subst this
    simp
  rw [e,bl_encS,decS_lay (h.sp _ (List.getElem_mem _)) (h.kid _ (List.getElem_mem _))]
theorem follows_at (W:World) (base j C C2:Nat) (A A2:Option Addr) (hi:En) (l:List ByteArray) (ks:List (En × Int)) (h:InIs hi l ks) (hj:j < ks.length) (hl:ks.length≤8796093021952) (hE:Ets W base (.slice A j C) ((ks.take j).map Prod.fst)) :
    Calls Tryz.prog 140 #[.agg #[.slice A j C,.slice A2 j C2,.string hi.key,.int .i64 hi.page,.int .i64 hi.slot],.agg #[.string ks[j].1.key,.int .i64 ks[j].1.page,.int .i64 ks[j].1.slot]] W fun x w'=>x=.returned (.bool true)∧Only (fun _=>False) W w':=by
  cases j with
  | zero=>
    obtain ⟨c,r,e⟩:=h.first
    subst e
    exact follows_first W A A2 C 0 C2 hi
  | succ n=>
    obtain ⟨B,ao,cp,hv,hels,_,_⟩:=hE.els
    have hlen:((ks.take (n+1)).map Prod.fst).length=n+1:=by rw [List.length_map,List.length_take]; omega
    obtain ⟨o,hao,hat⟩:=hels.at_ (by omega)
    have hv':A=ao:=by injection hv
    subst hao
    subst hv'
    have hb:=hat n (by omega)
    rw [List.getElem_map,List.getElem_take] at hb
    have hr:=List.pairwise_iff_getElem.1 h.rise n (n+1) (by simp; omega) (by simp; omega) (by omega)
    rw [List.getElem_map,List.getElem_map] at hr
    have hm:ks[n+1] ∈ ks.tail:=by
      obtain ⟨c,r,e⟩:=h.first
      subst e
      simp
    exact follows_next W B o n C (n+1) C2 A2 hi ks[n+1].1 ks[n].1 hb hr (h.ok _ hm).2 (by omega)
set_option maxHeartbeats 3200000 in
theorem readInner_ok (w:World) (a v r:Int) (h:ByteArray) (hi:En) (B cp:Nat) (ao:Option Addr) (l:List ByteArray) (ks:List (En × Int)) (hS:Strs w B ao l) (hv:1≤v∧v≤255) (hr:0≤r∧r≤65535) (hh:HiIs h hi) (hl:l.length≤1048576) (hL:InIs hi l ks) :
    Calls Tryz.prog 98 #[pgv a 3 v r h ao l.length cp] w fun e w'=>InR w w' e hi ks:=by
  have HX:=hide (lf_new w (.int .i64 a) (.int .i64 3) (.int .i64 v) (.int .i64 r) (.string h) (.slice ao l.length cp))
  have HRH:Hid (∀ W,Calls Tryz.prog 124 #[.agg #[.int .i64 a,.int .i64 3,.int .i64 v,.int .i64 r,.string h,.slice ao l.length cp]] W fun e w'=>e=.returned (.tuple #[.agg #[.string hi.key,.int .i64 hi.page,.int .i64 hi.slot],.bool true])∧Only (fun _=>False) W w'):=fun W=>readHead_ok W a v r h hi ao l.length cp (by omega) hr hh
  obtain ⟨O,hmk,hown⟩:=ets_made l.length hl
  obtain ⟨O2,hmk2,hown2⟩:=kts_made l.length hl
  have HOWN:Hid (∀ (W:World) (g:Nat),g=W.heap.size→w.heap.size≤W.heap.size→Ets (W.alloc O) w.heap.size (.slice (some ⟨g,0,none⟩) 0 l.length) []):=fun W g hg hb=>by subst hg; exact hown W _ hb
  have HOWK:Hid (∀ (W:World) (g:Nat),g=W.heap.size→w.heap.size≤W.heap.size→Kts (W.alloc O2) w.heap.size (.slice (some ⟨g,0,none⟩) 0 l.length) []):=fun W g hg hb=>by subst hg; exact hown2 W _ hb
  have HS:=hide hS
  have HL:=hide hL
  have HLEN:=hide hL.len
  have HPOS:Hid (0 < l.length):=by
    obtain ⟨c,r,e⟩:=hL.first
    have:=hL.len
    unfold Hid
    rw [this,e]
    simp
  have hv0:(v == 0)=false:=by simp; omega
  have hl0:((l.length:Int) == 0)=false:=by have:=HPOS.out; rw [beq_eq_false_iff_ne]; omega
  have HLL:=hide hl
  clear hS hr hh hown hown2 hL hv
  unfold pgv
  go_enter Tryz.func98,Tryz.ntmps98
  go_upto_region 1 with fail
  obtain ⟨W0,hW0⟩:=exq ((w.alloc (.cells #[.int .i64 a,.int .i64 3,.int .i64 v,.int .i64 r,.string h,.slice ao l.length cp] 37)).alloc (.cells #[.slice none 0 0,.slice none 0 0,.string ⟨#[]⟩,.int .i64 0,.int .i64 0] 164))
  rw [hW0] at HX ⊢
  clear hW0
  obtain ⟨p0,p1,p2,p3,p4,p5,_⟩:=HX.out.1
  go_wp2_with fail
  refine (HRH.out _).mono ?_
  rintro e w1 ⟨rfl,ho⟩
  have HP1:=hide (HX.out.1.more ho)
  have HC1:=hide (HX.out.2.1.more ho)
  have HO1:=hide (o2 HX.out.2.2 ho)
  clear ho p0 p1 p2 p3 p4 p5 HX HRH
  go_upto_region 2 with fail
  have HA:=hide (onlyA w1 (.cells #[.string hi.key,.int .i64 hi.page,.int .i64 hi.slot] 89))
  have HV2:=hide (Ev.new w1 hi)
  obtain ⟨b4,hb4⟩:=exq (w1.heap.size)
  rw [hb4] at HV2 ⊢
  clear hb4
  obtain ⟨w2,hw2⟩:=exq (w1.alloc (.cells #[.string hi.key,.int .i64 hi.page,.int .i64 hi.slot] 89))
  rw [hw2] at HA HV2 ⊢
  clear hw2
  have HP2:=hide (HP1.out.more HA.out)
  have HC2:=hide (HC1.out.more HA.out)
  have HO2:=hide (o2 HO1.out HA.out)
  clear HA HP1 HC1 HO1
  have p2:=HP2.out.c2
  have p5:=HP2.out.c5
  go_upto_region 4 with fail
  clear p2 p5 hv0 hl0
  go_cut [6] (fun p wx=>∃ c g q,p=.pointer (some ⟨c,0,none⟩)∧Hid (Lc w wx a v r h ao l.length cp c (.slice (some ⟨g,0,none⟩) 0 l.length) (.slice (some ⟨q,0,none⟩) 0 l.length) hi [] []))
  case first=>
    -- {r4
    refine wp_region_noPanic ?_
    refine wp_region_held_drew (S:=fun W=>Only (fun _=>False) w2 W) (by kernel_rfl) (Only.drew _ _) (fun hHeld=>?_)
    refine tkP 0 (.pointer (some ⟨w.heap.size,5,none⟩)) rfl ?_
    refine tkP 4 (.pointer (some ⟨w.heap.size,5,none⟩)) rfl ?_
    refine tkQ 8 (.agg #[.string hi.key,.int .i64 hi.page,.int .i64 hi.slot]) rfl (yieldsIf_load_ev (by rfl) _ rfl rfl (fun W hW=>HV2.out.more hW)) ?_
    refine tkQ 1 (.slice ao l.length cp) rfl (yieldsIf_load_cell (by rfl) 35 _ rfl _ rfl (fun W hW=>(HP2.out.more hW).c5) (fun W hc=>ld_strings hc)) ?_
    refine tkQ 5 (.slice ao l.length cp) rfl (yieldsIf_load_cell (by rfl) 35 _ rfl _ rfl (fun W hW=>(HP2.out.more hW).c5) (fun W hc=>ld_strings hc)) ?_
    refine tkP 2 (.int .i64 (l.length:Int)) rfl ?_
    refine tkP 6 (.int .i64 (l.length:Int)) rfl ?_
    refine wpAnyH_ready (rs:=[3,7,10]) (by kernel_rfl) (by simp) ?_
    refine arC rfl (fun K hK=>?_) (arC rfl (fun K hK=>?_) (arC rfl (fun K hK=>?_) (AllReadyH.nil)))
    · go_simp
      refine hK.out _ _ (o2 (onlyA _ _) (Only.drew _ _)) (fun hHeld=>?_)
      clear hK K
      try simp only [Act.put,lsA,lsB,lsC]
      refine wpAnyH_ready (rs:=[7,10]) (by kernel_rfl) (by simp) ?_
      refine arC rfl (fun K hK=>?_) (arC rfl (fun K hK=>?_) (AllReadyH.nil))
      · go_simp
        refine hK.out _ _ (o2 (o2 (onlyA _ _) (onlyA _ _)) (Only.drew _ _)) (fun hHeld=>?_)
        clear hK K
        try simp only [Act.put,lsA,lsB,lsC]
        refine tkP 9 (.agg #[.slice (some ⟨w2.heap.size,0,none⟩) 0 l.length,.slice (some ⟨w2.heap.size+1,0,none⟩) 0 l.length,.string hi.key,.int .i64 hi.page,.int .i64 hi.slot]) rfl ?_
        refine rd1 10 rfl (fun K hK=>?_)
        go_simp
        refine hK.out _ _ (o2 (o2 (o2 (onlyA _ _) (onlyA _ _)) (onlyA _ _)) (Only.drew _ _)) (fun hHeld=>?_)
        clear hK K
        try simp only [Act.put,lsA,lsB,lsC]
        refine rd1 11 rfl (fun K hK=>?_)
        go_simp
        have HLc:Hid (Lc w (((w2.alloc O).alloc O2).alloc (.cells #[.slice (some ⟨w2.heap.size,0,none⟩) 0 l.length,.slice (some ⟨w2.heap.size+1,0,none⟩) 0 l.length,.string hi.key,.int .i64 hi.page,.int .i64 hi.slot] 164)).drew a v r h ao l.length cp (w2.heap.size+1+1) (.slice (some ⟨w2.heap.size,0,none⟩) 0 l.length) (.slice (some ⟨w2.heap.size+1,0,none⟩) 0 l.length) hi [] []):=Lc.firstI HP2.out HC2.out HO2.out (o2 (o2 (o2 (onlyA _ _) (onlyA _ _)) (onlyA _ _)) (Only.drew _ _)) ((Cv.at ((w2.alloc O).alloc O2) _ (by simp) _ _ hi).more (Only.drew _ _)) ((HOWN.out w2 _ (by simp) (by have:=HO2.out.size; simp; omega)).more (o2 (o2 (onlyA _ _) (onlyA _ _)) (Only.drew _ _))) ((HOWK.out (w2.alloc O) _ (by simp) (by have:=HO2.out.size; simp; omega)).more (o2 (onlyA _ _) (Only.drew _ _))) (by omega)
        refine hK.out _ _ (o2 (o2 (o2 (onlyA _ _) (onlyA _ _)) (onlyA _ _)) (Only.drew _ _)) (fun hHeld=>?_)
        clear hK K
        try simp only [Act.put,lsA,lsB,lsC]
        refine dnN ?_
        go_wp2_with fail
        go_meet
        exact ⟨_,_,_,rfl,HLc⟩
      · go_simp
        refine hK.out _ _ (o2 (o2 (onlyA _ _) (onlyA _ _)) (Only.drew _ _)) (fun hHeld=>?_)
        clear hK K
        try simp only [Act.put,lsA,lsB,lsC]
        refine rd1 7 rfl (fun K hK=>?_)
        go_simp
        refine hK.out _ _ (o2 (o2 (o2 (onlyA _ _) (onlyA _ _)) (onlyA _ _)) (Only.drew _ _)) (fun hHeld=>?_)
        clear hK K
        try simp only [Act.put,lsA,lsB,lsC]
        refine tkP 9 (.agg #[.slice (some ⟨w2.heap.size,0,none⟩) 0 l.length,.slice (some ⟨w2.heap.size+1+1,0,none⟩) 0 l.length,.string hi.key,.int .i64 hi.page,.int .i64 hi.slot]) rfl ?_
        refine rd1 11 rfl (fun K hK=>?_)
        go_simp
        have HLc:Hid (Lc w (((w2.alloc O).alloc (.cells #[.slice (some ⟨w2.heap.size,0,none⟩) 0 l.length,.slice (some ⟨w2.heap.size+1+1,0,none⟩) 0 l.length,.string hi.key,.int .i64 hi.page,.int .i64 hi.slot] 164)).alloc O2).drew a v r h ao l.length cp (w2.heap.size+1) (.slice (some ⟨w2.heap.size,0,none⟩) 0 l.length) (.slice (some ⟨w2.heap.size+1+1,0,none⟩) 0 l.length) hi [] []):=Lc.firstI HP2.out HC2.out HO2.out (o2 (o2 (o2 (onlyA _ _) (onlyA _ _)) (onlyA _ _)) (Only.drew _ _)) ((Cv.at (w2.alloc O) _ (by simp) _ _ hi).more (o2 (onlyA _ _) (Only.drew _ _))) ((HOWN.out w2 _ (by simp) (by have:=HO2.out.size; simp; omega)).more (o2 (o2 (onlyA _ _) (onlyA _ _)) (Only.drew _ _))) ((HOWK.out ((w2.alloc O).alloc (.cells #[.slice (some ⟨w2.heap.size,0,none⟩) 0 l.length,.slice (some ⟨w2.heap.size+1+1,0,none⟩) 0 l.length,.string hi.key,.int .i64 hi.page,.int .i64 hi.slot] 164)) _ (by simp) (by have:=HO2.out.size; simp; omega)).more (Only.drew _ _)) (by omega)
        refine hK.out _ _ (o2 (o2 (o2 (onlyA _ _) (onlyA _ _)) (onlyA _ _)) (Only.drew _ _)) (fun hHeld=>?_)
        clear hK K
        try simp only [Act.put,lsA,lsB,lsC]
        refine dnN ?_
        go_wp2_with fail
        go_meet
        exact ⟨_,_,_,rfl,HLc⟩
    · go_simp
      refine hK.out _ _ (o2 (onlyA _ _) (Only.drew _ _)) (fun hHeld=>?_)
      clear hK K
      try simp only [Act.put,lsA,lsB,lsC]
      refine wpAnyH_ready (rs:=[3,10]) (by kernel_rfl) (by simp) ?_
      refine arC rfl (fun K hK=>?_) (arC rfl (fun K hK=>?_) (AllReadyH.nil))
      · go_simp
        refine hK.out _ _ (o2 (o2 (onlyA _ _) (onlyA _ _)) (Only.drew _ _)) (fun hHeld=>?_)
        clear hK K
        try simp only [Act.put,lsA,lsB,lsC]
        refine tkP 9 (.agg #[.slice (some ⟨w2.heap.size+1,0,none⟩) 0 l.length,.slice (some ⟨w2.heap.size,0,none⟩) 0 l.length,.string hi.key,.int .i64 hi.page,.int .i64 hi.slot]) rfl ?_
        refine rd1 10 rfl (fun K hK=>?_)
        go_simp
        refine hK.out _ _ (o2 (o2 (o2 (onlyA _ _) (onlyA _ _)) (onlyA _ _)) (Only.drew _ _)) (fun hHeld=>?_)
        clear hK K
        try simp only [Act.put,lsA,lsB,lsC]
        refine rd1 11 rfl (fun K hK=>?_)
        go_simp
        have HLc:Hid (Lc w (((w2.alloc O2).alloc O).alloc (.cells #[.slice (some ⟨w2.heap.size+1,0,none⟩) 0 l.length,.slice (some ⟨w2.heap.size,0,none⟩) 0 l.length,.string hi.key,.int .i64 hi.page,.int .i64 hi.slot] 164)).drew a v r h ao l.length cp (w2.heap.size+1+1) (.slice (some ⟨w2.heap.size+1,0,none⟩) 0 l.length) (.slice (some ⟨w2.heap.size,0,none⟩) 0 l.length) hi [] []):=Lc.firstI HP2.out HC2.out HO2.out (o2 (o2 (o2 (onlyA _ _) (onlyA _ _)) (onlyA _ _)) (Only.drew _ _)) ((Cv.at ((w2.alloc O2).alloc O) _ (by simp) _ _ hi).more (Only.drew _ _)) ((HOWN.out (w2.alloc O2) _ (by simp) (by have:=HO2.out.size; simp; omega)).more (o2 (onlyA _ _) (Only.drew _ _))) ((HOWK.out w2 _ (by simp) (by have:=HO2.out.size; simp; omega)).more (o2 (o2 (onlyA _ _) (onlyA _ _)) (Only.drew _ _))) (by omega)
        refine hK.out _ _ (o2 (o2 (o2 (onlyA _ _) (onlyA _ _)) (onlyA _ _)) (Only.drew _ _)) (fun hHeld=>?_)
        clear hK K
        try simp only [Act.put,lsA,lsB,lsC]
        refine dnN ?_
        go_wp2_with fail
        go_meet
        exact ⟨_,_,_,rfl,HLc⟩
      · go_simp
        refine hK.out _ _ (o2 (o2 (onlyA _ _) (onlyA _ _)) (Only.drew _ _)) (fun hHeld=>?_)
        clear hK K
        try simp only [Act.put,lsA,lsB,lsC]
        refine rd1 3 rfl (fun K hK=>?_)
        go_simp
        refine hK.out _ _ (o2 (o2 (o2 (onlyA _ _) (onlyA _ _)) (onlyA _ _)) (Only.drew _ _)) (fun hHeld=>?_)
        clear hK K
        try simp only [Act.put,lsA,lsB,lsC]
        refine tkP 9 (.agg #[.slice (some ⟨w2.heap.size+1+1,0,none⟩) 0 l.length,.slice (some ⟨w2.heap.size,0,none⟩) 0 l.length,.string hi.key,.int .i64 hi.page,.int .i64 hi.slot]) rfl ?_
        refine rd1 11 rfl (fun K hK=>?_)
        go_simp
        have HLc:Hid (Lc w (((w2.alloc O2).alloc (.cells #[.slice (some ⟨w2.heap.size+1+1,0,none⟩) 0 l.length,.slice (some ⟨w2.heap.size,0,none⟩) 0 l.length,.string hi.key,.int .i64 hi.page,.int .i64 hi.slot] 164)).alloc O).drew a v r h ao l.length cp (w2.heap.size+1) (.slice (some ⟨w2.heap.size+1+1,0,none⟩) 0 l.length) (.slice (some ⟨w2.heap.size,0,none⟩) 0 l.length) hi [] []):=Lc.firstI HP2.out HC2.out HO2.out (o2 (o2 (o2 (onlyA _ _) (onlyA _ _)) (onlyA _ _)) (Only.drew _ _)) ((Cv.at (w2.alloc O2) _ (by simp) _ _ hi).more (o2 (onlyA _ _) (Only.drew _ _))) ((HOWN.out ((w2.alloc O2).alloc (.cells #[.slice (some ⟨w2.heap.size+1+1,0,none⟩) 0 l.length,.slice (some ⟨w2.heap.size,0,none⟩) 0 l.length,.string hi.key,.int .i64 hi.page,.int .i64 hi.slot] 164)) _ (by simp) (by have:=HO2.out.size; simp; omega)).more (Only.drew _ _)) ((HOWK.out w2 _ (by simp) (by have:=HO2.out.size; simp; omega)).more (o2 (o2 (onlyA _ _) (onlyA _ _)) (Only.drew _ _))) (by omega)
        refine hK.out _ _ (o2 (o2 (o2 (onlyA _ _) (onlyA _ _)) (onlyA _ _)) (Only.drew _ _)) (fun hHeld=>?_)
        clear hK K
        try simp only [Act.put,lsA,lsB,lsC]
        refine dnN ?_
        go_wp2_with fail
        go_meet
        exact ⟨_,_,_,rfl,HLc⟩
    · go_simp
      refine hK.out _ _ (o2 (onlyA _ _) (Only.drew _ _)) (fun hHeld=>?_)
      clear hK K
      try simp only [Act.put,lsA,lsB,lsC]
      refine wpAnyH_ready (rs:=[3,7]) (by kernel_rfl) (by simp) ?_
      refine arC rfl (fun K hK=>?_) (arC rfl (fun K hK=>?_) (AllReadyH.nil))
      · go_simp
        refine hK.out _ _ (o2 (o2 (onlyA _ _) (onlyA _ _)) (Only.drew _ _)) (fun hHeld=>?_)
        clear hK K
        try simp only [Act.put,lsA,lsB,lsC]
        refine rd1 7 rfl (fun K hK=>?_)
        go_simp
        refine hK.out _ _ (o2 (o2 (o2 (onlyA _ _) (onlyA _ _)) (onlyA _ _)) (Only.drew _ _)) (fun hHeld=>?_)
        clear hK K
        try simp only [Act.put,lsA,lsB,lsC]
        refine tkP 9 (.agg #[.slice (some ⟨w2.heap.size+1,0,none⟩) 0 l.length,.slice (some ⟨w2.heap.size+1+1,0,none⟩) 0 l.length,.string hi.key,.int .i64 hi.page,.int .i64 hi.slot]) rfl ?_
        refine rd1 11 rfl (fun K hK=>?_)
        go_simp
        have HLc:Hid (Lc w (((w2.alloc (.cells #[.slice (some ⟨w2.heap.size+1,0,none⟩) 0 l.length,.slice (some ⟨w2.heap.size+1+1,0,none⟩) 0 l.length,.string hi.key,.int .i64 hi.page,.int .i64 hi.slot] 164)).alloc O).alloc O2).drew a v r h ao l.length cp (w2.heap.size) (.slice (some ⟨w2.heap.size+1,0,none⟩) 0 l.length) (.slice (some ⟨w2.heap.size+1+1,0,none⟩) 0 l.length) hi [] []):=Lc.firstI HP2.out HC2.out HO2.out (o2 (o2 (o2 (onlyA _ _) (onlyA _ _)) (onlyA _ _)) (Only.drew _ _)) ((Cv.at w2 _ (by simp) _ _ hi).more (o2 (o2 (onlyA _ _) (onlyA _ _)) (Only.drew _ _))) ((HOWN.out (w2.alloc (.cells #[.slice (some ⟨w2.heap.size+1,0,none⟩) 0 l.length,.slice (some ⟨w2.heap.size+1+1,0,none⟩) 0 l.length,.string hi.key,.int .i64 hi.page,.int .i64 hi.slot] 164)) _ (by simp) (by have:=HO2.out.size; simp; omega)).more (o2 (onlyA _ _) (Only.drew _ _))) ((HOWK.out ((w2.alloc (.cells #[.slice (some ⟨w2.heap.size+1,0,none⟩) 0 l.length,.slice (some ⟨w2.heap.size+1+1,0,none⟩) 0 l.length,.string hi.key,.int .i64 hi.page,.int .i64 hi.slot] 164)).alloc O) _ (by simp) (by have:=HO2.out.size; simp; omega)).more (Only.drew _ _)) (by omega)
        refine hK.out _ _ (o2 (o2 (o2 (onlyA _ _) (onlyA _ _)) (onlyA _ _)) (Only.drew _ _)) (fun hHeld=>?_)
        clear hK K
        try simp only [Act.put,lsA,lsB,lsC]
        refine dnN ?_
        go_wp2_with fail
        go_meet
        exact ⟨_,_,_,rfl,HLc⟩
      · go_simp
        refine hK.out _ _ (o2 (o2 (onlyA _ _) (onlyA _ _)) (Only.drew _ _)) (fun hHeld=>?_)
        clear hK K
        try simp only [Act.put,lsA,lsB,lsC]
        refine rd1 3 rfl (fun K hK=>?_)
        go_simp
        refine hK.out _ _ (o2 (o2 (o2 (onlyA _ _) (onlyA _ _)) (onlyA _ _)) (Only.drew _ _)) (fun hHeld=>?_)
        clear hK K
        try simp only [Act.put,lsA,lsB,lsC]
        refine tkP 9 (.agg #[.slice (some ⟨w2.heap.size+1+1,0,none⟩) 0 l.length,.slice (some ⟨w2.heap.size+1,0,none⟩) 0 l.length,.string hi.key,.int .i64 hi.page,.int .i64 hi.slot]) rfl ?_
        refine rd1 11 rfl (fun K hK=>?_)
        go_simp
        have HLc:Hid (Lc w (((w2.alloc (.cells #[.slice (some ⟨w2.heap.size+1+1,0,none⟩) 0 l.length,.slice (some ⟨w2.heap.size+1,0,none⟩) 0 l.length,.string hi.key,.int .i64 hi.page,.int .i64 hi.slot] 164)).alloc O2).alloc O).drew a v r h ao l.length cp (w2.heap.size) (.slice (some ⟨w2.heap.size+1+1,0,none⟩) 0 l.length) (.slice (some ⟨w2.heap.size+1,0,none⟩) 0 l.length) hi [] []):=Lc.firstI HP2.out HC2.out HO2.out (o2 (o2 (o2 (onlyA _ _) (onlyA _ _)) (onlyA _ _)) (Only.drew _ _)) ((Cv.at w2 _ (by simp) _ _ hi).more (o2 (o2 (onlyA _ _) (onlyA _ _)) (Only.drew _ _))) ((HOWN.out ((w2.alloc (.cells #[.slice (some ⟨w2.heap.size+1+1,0,none⟩) 0 l.length,.slice (some ⟨w2.heap.size+1,0,none⟩) 0 l.length,.string hi.key,.int .i64 hi.page,.int .i64 hi.slot] 164)).alloc O2) _ (by simp) (by have:=HO2.out.size; simp; omega)).more (Only.drew _ _)) ((HOWK.out (w2.alloc (.cells #[.slice (some ⟨w2.heap.size+1+1,0,none⟩) 0 l.length,.slice (some ⟨w2.heap.size+1,0,none⟩) 0 l.length,.string hi.key,.int .i64 hi.page,.int .i64 hi.slot] 164)) _ (by simp) (by have:=HO2.out.size; simp; omega)).more (o2 (onlyA _ _) (Only.drew _ _))) (by omega)
        refine hK.out _ _ (o2 (o2 (o2 (onlyA _ _) (onlyA _ _)) (onlyA _ _)) (Only.drew _ _)) (fun hHeld=>?_)
        clear hK K
        try simp only [Act.put,lsA,lsB,lsC]
        refine dnN ?_
        go_wp2_with fail
        go_meet
        exact ⟨_,_,_,rfl,HLc⟩
    -- r4}
  case rest=>
    obtain ⟨c,g,q,rfl,HL0⟩:=hcut
    clear HP2 HC2 HV2 HO2
    have p5:=HL0.out.pag.c5
    go_upto_region 6 with fail
    clear p5
    go_loopw [44] (fun i wr=>∃ (j:Nat) (A:Option Addr) (C:Nat) (A2:Option Addr) (C2:Nat),j≤l.length∧i=.int .i64 (j:Int)∧Hid (Lc w wr a v r h ao l.length cp c (.slice A j C) (.slice A2 j C2) hi ((ks.take j).map Prod.fst) ((ks.take j).map Prod.snd))) (fun i _=>l.length - (intOf i).toNat)
    case atStart=>exact ⟨0,some ⟨g,0,none⟩,l.length,some ⟨q,0,none⟩,l.length,Nat.zero_le _,rfl,HL0⟩
    case round=>
      clear HL0
      obtain ⟨j,A,C,A2,C2,hj,rfl,HLj⟩:=hrel
      by_cases hlt:j < l.length
      · have hje:j < ks.length:=by have:=HLEN.out; omega
        obtain ⟨o,rfl,hc⟩:=(HS.out.more HLj.out.only).at_ (by omega)
        have ck:=hc j hlt
        have hlk:(j:Int) < (l.length:Int):=by omega
        have HDC:Hid (∀ W,Calls Tryz.prog 100 #[.string l[j]] W fun e w'=>e=.returned (.tuple #[.agg #[.string ks[j].1.key,.int .i64 ks[j].1.page,.int .i64 ks[j].1.slot],.int .i64 ks[j].2,.int .i64 0])∧Only (fun _=>False) W w'):=fun W=>by
          have:=unsep_any l[j] W
          rw [HL.out.at_ j hlt hje] at this
          exact this
        have HFO:Hid (∀ W (A A2:Option Addr) (C C2:Nat),Ets W w.heap.size (.slice A j C) ((ks.take j).map Prod.fst)→Calls Tryz.prog 140 #[.agg #[.slice A j C,.slice A2 j C2,.string hi.key,.int .i64 hi.page,.int .i64 hi.slot],.agg #[.string ks[j].1.key,.int .i64 ks[j].1.page,.int .i64 ks[j].1.slot]] W fun e w'=>e=.returned (.bool true)∧Only (fun _=>False) W w'):=fun W A A2 C C2 hE=>follows_at W w.heap.size j C C2 A A2 hi l ks HL.out hje (by have:=HLEN.out; have:=HLL.out; omega) hE
        have HTK:Hid ((ks.take (j+1)).map Prod.fst=(ks.take j).map Prod.fst++[ks[j].1]∧(ks.take (j+1)).map Prod.snd=(ks.take j).map Prod.snd++[ks[j].2]):=by
          unfold Hid
          rw [List.take_succ_eq_append_getElem hje,List.map_append,List.map_append]
          exact ⟨rfl,rfl⟩
        have HTL:Hid (((ks.take j).map Prod.fst).length=j∧((ks.take j).map Prod.snd).length=j):=by unfold Hid; rw [List.length_map,List.length_map,List.length_take]; omega
        obtain ⟨s,hs⟩:=exq (l[j])
        obtain ⟨e,he⟩:=exq (ks[j].1)
        obtain ⟨kd,hkd⟩:=exq (ks[j].2)
        rw [hs] at ck HDC
        rw [he] at HDC HFO HTK
        rw [hkd] at HDC HTK
        clear hc hs he hkd
        go_wp2_with fail
        refine (HDC.out _).mono ?_
        rintro x w2 ⟨rfl,ho⟩
        have HL4:=hide (HLj.out.more ho)
        clear ho ck HLj HDC
        go_upto_region 9 with fail
        have HA:=hide (onlyA w2 (.cells #[.string e.key,.int .i64 e.page,.int .i64 e.slot] 89))
        have HE4:=hide (Ev.new w2 e)
        have HXC:Hid (c < w2.heap.size∧(∀ k,(Value.slice A j C).ownBlock=some k→k < w2.heap.size)∧(∀ k,(Value.slice A2 j C2).ownBlock=some k→k < w2.heap.size)):=⟨HL4.out.con.lt,fun k hk=>(HL4.out.dis k hk).2.2.2,fun k hk=>(HL4.out.diy k hk).2.2⟩
        obtain ⟨xb,hxb⟩:=exq (w2.heap.size)
        rw [hxb] at HE4 HXC ⊢
        clear hxb
        obtain ⟨W4,hW4⟩:=exq (w2.alloc (.cells #[.string e.key,.int .i64 e.page,.int .i64 e.slot] 89))
        rw [hW4] at HA HE4 ⊢
        clear hW4
        have HL5:=hide (HL4.out.more HA.out)
        clear HA HL4
        obtain ⟨d0,d1,d2,_⟩:=HE4.out
        obtain ⟨q0,q1,q2,q3,q4,_⟩:=HL5.out.con
        go_wp2_with fail
        refine (HFO.out _ _ _ _ _ HL5.out.ets).mono ?_
        rintro x W6 ⟨rfl,ho⟩
        have HL7:=hide (HL5.out.more ho)
        have HE7:=hide (HE4.out.more ho)
        clear ho d0 d1 d2 q0 q1 q2 q3 q4 HL5 HE4 HFO
        have HN7:=hide (onlyA W6 (.cells #[.string e.key,.int .i64 e.page,.int .i64 e.slot] 89))
        have HEA:=(HL7.out.ets.more HN7.out)
        obtain ⟨A8,C8,W8,hr8,he8,ho8,hx8⟩:=ets_append _ w.heap.size _ _ HEA W6.heap.size 0 1 1 [e] rfl (fun k hk=>by
          have:k=0:=by simpa using hk
          subst this
          exact (Ev.new W6 e).eb) (by have:=HTL.out.1; have:=HLL.out; omega) (Nat.le_trans HL7.out.only.size (onlyA _ _).size)
        rw [HTL.out.1] at hr8 he8 hx8
        rw [← HTK.out.1] at he8
        have HR8:=hide hr8
        have HL8:Hid (Lc w (W8.setCell ⟨c,0,none⟩ (.slice A8 (j+1) C8)) a v r h (some ⟨B,o,none⟩) l.length cp c (.slice A8 (j+1) C8) (.slice A2 j C2) hi ((ks.take (j+1)).map Prod.fst) ((ks.take j).map Prod.snd)):=(HL7.out.more HN7.out).app he8 ho8 (by
          rcases hx8 with e8 | e8
          · exact .inl e8
          · have:=(World.ownsRow.lt he8 _ e8).2
            exact .inr ⟨_,e8,Nat.le_refl _,this⟩)
        have hcn:¬ (Value.slice A j C).ownBlock=some c:=fun k=>(HL7.out.dis c k).2.1 rfl
        have hcx:=(HL7.out.con.more HN7.out).kept ho8 hcn
        obtain ⟨d0,d1,d2,_⟩:=HE7.out
        have q0:=HL7.out.con.c0
        have u0:=hcx.c0
        have uf:=hcx.f0
        clear hr8 he8 ho8 hx8 hcn hcx HEA HN7
        go_upto_region 12 with (at_builtin; go_must (refine Lib.wpList_append_run _ rfl _ _ _ _ rfl _ _ rfl rfl _ _ HR8.out ?_))
        obtain ⟨W9,hW9⟩:=exq (W8.setCell ⟨c,0,none⟩ (.slice A8 (j+1) C8))
        rw [hW9] at HL8 ⊢
        clear hW9 d0 d1 d2 q0 u0 uf HL7 HE7 HR8
        have HN9:=hide (onlyA W9 (.cells #[.int .i64 kd] 3))
        have HKA:=(HL8.out.kts.more HN9.out)
        obtain ⟨A10,C10,W10,hr10,he10,ho10,hx10⟩:=kts_append _ w.heap.size _ _ HKA W9.heap.size kd (by simp) (by have:=HTL.out.2; have:=HLL.out; omega) (Nat.le_trans HL8.out.only.size (onlyA _ _).size)
        rw [HTL.out.2] at hr10 he10 hx10
        rw [← HTK.out.2] at he10
        have HR10:=hide hr10
        have HL10:Hid (Lc w (W10.setCell ⟨c,1,none⟩ (.slice A10 (j+1) C10)) a v r h (some ⟨B,o,none⟩) l.length cp c (.slice A8 (j+1) C8) (.slice A10 (j+1) C10) hi ((ks.take (j+1)).map Prod.fst) ((ks.take (j+1)).map Prod.snd)):=(HL8.out.more HN9.out).appk he10 ho10 (by
          rcases hx10 with e8 | e8
          · exact .inl e8
          · have:=(World.ownsRow.lt he10 _ e8).2
            exact .inr ⟨_,e8,Nat.le_refl _,this⟩)
        have hcn:¬ (Value.slice A2 j C2).ownBlock=some c:=fun k=>(HL8.out.diy c k).2.1 rfl
        have hcx:=(HL8.out.con.more HN9.out).kept ho10 hcn
        have q1:=HL8.out.con.c1
        have u1:=hcx.c1
        have uf:=hcx.f1
        clear hr10 he10 ho10 hx10 hcn hcx HKA HN9 HL8
        go_wp2_with (at_builtin; go_must (refine Lib.wpList_append_run _ rfl _ _ _ _ rfl _ _ rfl rfl _ _ HR10.out ?_))
        clear q1 u1 uf HR10
        go_roundw
        case rel=>exact ⟨j+1,A8,C8,A10,C10,by omega,by go_num,HL10⟩
        case measure=>simp [intOf]; omega
      · have hlk:¬ (j:Int) < (l.length:Int):=by omega
        have ej:j=ks.length:=by have:=HLEN.out; omega
        subst ej
        rw [List.take_length] at HLj
        obtain ⟨q0,q1,q2,q3,q4,_⟩:=HLj.out.con
        obtain ⟨r0,r1,r2,r3,r4,f0,f1,f2,f3,f4,_⟩:=HLj.out.res
        go_wp2_with fail
        refine bodyPost_ret (results_cv rfl rfl (HLj.out.res.all _ _ hi)) rfl ?_
        have hfive:=Only.five wr (w.heap.size+1) (.slice A ks.length C) (.slice A2 ks.length C2) (.string hi.key) (.int .i64 hi.page) (.int .i64 hi.slot)
        exact ⟨A,C,A2,C2,rfl,HLj.out.ets.kept hfive (fun k hk=>by have:=(HLj.out.dis k hk).1; omega),HLj.out.kts.kept hfive (fun k hk=>by have:=(HLj.out.diy k hk).1; omega),HLj.out.only.trans hfive (fun i hi e=>by omega)⟩
def idxE (es:List En) (e:En):Int:=if e ∈ es then (plE es e:Int) else -1
theorem plE_at {es:List En} (hr:Rise es) (i:Nat) (h:i < es.length):plE es es[i]=i:=by
  refine plE_of (Nat.le_of_lt h) ?_ (drop_nlt hr i h (En.lt_irrefl _))
  intro z hz
  obtain ⟨k,hk,rfl⟩:=List.mem_iff_getElem.1 hz
  rw [List.length_take] at hk
  rw [List.getElem_take]
  exact List.pairwise_iff_getElem.1 hr k i (by omega) h (by omega)
set_option maxHeartbeats 1600000 in
theorem indexE_any (w:World) (B n C:Nat) (A:Option Addr) (es:List En) (e:En) (hE:Els w B A es) (hn:es.length=n) (hl:n≤8796093021952) (hr:Rise es) :
    Calls Tryz.prog 147 #[.slice A n C,e.agg] w fun x w'=>x=.returned (.int .i64 (idxE es e))∧Only (fun _=>False) w w':=by
  have HE:=hide hE
  have HN:=hide hn
  have HR:=hide hr
  have HV:=hide (Ev.new w e)
  have HO:=hide (onlyA w (.cells #[.string e.key,.int .i64 e.page,.int .i64 e.slot] 89))
  clear hE hn hr
  unfold En.agg
  go_enter Tryz.func147,Tryz.ntmps147
  go_upto_region 2 with fail
  obtain ⟨W0,hW0⟩:=exq (w.alloc (.cells #[.string e.key,.int .i64 e.page,.int .i64 e.slot] 89))
  rw [hW0] at HV HO ⊢
  clear hW0
  go_loopw [8] (fun x wr=>∃ (j:Nat),x=.int .i64 (j:Int)∧j≤n∧Hid (∀ z ∈ es.take j,z≠e)∧Hid (Only (fun _=>False) W0 wr)) (fun x _=>n - (intOf x).toNat)
  case atStart=>exact ⟨0,rfl,Nat.zero_le _,hide (fun z hz=>by simp at hz),hide (Only.refl _ _)⟩
  case round=>
    obtain ⟨j,rfl,hjn,HI,HW⟩:=hrel
    by_cases hlt:j < n
    · have hk:(j:Int) < (n:Int):=by omega
      have hk2:¬ (n:Int)≤(j:Int):=by omega
      have hje:j < es.length:=by have:=HN.out; omega
      obtain ⟨o,rfl,hb⟩:=(HE.out.more (o2 HO.out HW.out)).of j hje
      have HB:=hide hb
      have HV1:=hide (HV.out.more HW.out)
      have hq:=eqE_run e es[j]
      by_cases hc:e=es[j]
      · have HX:Hid (idxE es e=(j:Int)):=by
          unfold Hid idxE
          rw [hc,if_pos (List.getElem_mem _),plE_at HR.out j hje]
        have hd:decide (e=es[j])=true:=decide_eq_true hc
        rw [hd] at hq
        obtain ⟨f,hf⟩:=exq (es[j])
        rw [hf] at HB hq
        clear hf hb hc hd
        go_upto_region 4 with fail
        -- {r4a
        refine wp_region_noPanic ?_
        refine wp_region_held_drew (S:=fun W=>Only (fun _=>False) wr W) (by kernel_rfl) (Only.drew _ _) (fun hHeld=>?_)
        refine tkQ 0 (.agg #[.string e.key,.int .i64 e.page,.int .i64 e.slot]) rfl (yieldsIf_load_ev (by rfl) _ rfl rfl (fun W hW=>HV1.out.more hW)) ?_
        refine tkP 1 (.slice (some ⟨B,o,none⟩) n C) rfl ?_
        refine tkP 2 (.int .i64 (j:Int)) rfl ?_
        refine tkP 3 (.pointer (some ⟨B,o+j * 3,none⟩)) rfl ?_
        refine tkQ 4 (.agg #[.string f.key,.int .i64 f.page,.int .i64 f.slot]) rfl (yieldsIf_load_eb (by rfl) _ rfl rfl (fun W hW=>HB.out.more hW)) ?_
        refine tkP 5 (.bool true) rfl ?_
        refine dnN ?_
        -- r4a}
        go_wp2_with fail
        go_ret
        exact ⟨by rw [HX.out]; rfl,o2 HO.out (o2 HW.out (Only.drew _ _))⟩
      · have HI2:Hid (∀ z ∈ es.take (j+1),z≠e):=by
          intro z hz
          rw [List.take_succ_eq_append_getElem hje] at hz
          rcases List.mem_append.1 hz with hz | hz
          · exact HI.out z hz
          · have:z=es[j]:=by simpa using hz
            rw [this]
            exact fun x=>hc x.symm
        have hd:decide (e=es[j])=false:=decide_eq_false hc
        rw [hd] at hq
        obtain ⟨f,hf⟩:=exq (es[j])
        rw [hf] at HB hq
        clear hf hb hc hd
        go_upto_region 4 with fail
        -- {r4b
        refine wp_region_noPanic ?_
        refine wp_region_held_drew (S:=fun W=>Only (fun _=>False) wr W) (by kernel_rfl) (Only.drew _ _) (fun hHeld=>?_)
        refine tkQ 0 (.agg #[.string e.key,.int .i64 e.page,.int .i64 e.slot]) rfl (yieldsIf_load_ev (by rfl) _ rfl rfl (fun W hW=>HV1.out.more hW)) ?_
        refine tkP 1 (.slice (some ⟨B,o,none⟩) n C) rfl ?_
        refine tkP 2 (.int .i64 (j:Int)) rfl ?_
        refine tkP 3 (.pointer (some ⟨B,o+j * 3,none⟩)) rfl ?_
        refine tkQ 4 (.agg #[.string f.key,.int .i64 f.page,.int .i64 f.slot]) rfl (yieldsIf_load_eb (by rfl) _ rfl rfl (fun W hW=>HB.out.more hW)) ?_
        refine tkP 5 (.bool false) rfl ?_
        refine dnN ?_
        -- r4b}
        go_wp2_with fail
        go_roundw
        case rel=>exact ⟨j+1,by go_num,by omega,HI2,hide (o2 HW.out (Only.drew _ _))⟩
        case measure=>simp [intOf]; omega
    · have hk:¬ (j:Int) < (n:Int):=by omega
      have HX:Hid (idxE es e=-1):=by
        unfold Hid idxE
        rw [if_neg]
        intro hm
        have:=HN.out
        exact HI.out e (by rw [List.take_of_length_le (by omega)]; exact hm) rfl
      go_wp2_with fail
      go_ret
      exact ⟨by rw [HX.out]; rfl,o2 HO.out HW.out⟩
structure Lp (w:World) (r:Int) (h:ByteArray) (hi:En) (B:Nat) (ao:Option Addr) (l:List ByteArray) (es:List En):Prop where
  strs:Strs w B ao l
  right:0≤r∧r≤65535
  high:HiIs h hi
  lf:LfIs hi l es
  few:l.length≤1048576
theorem Lp.more {w w':World} {r:Int} {h:ByteArray} {hi:En} {B:Nat} {ao:Option Addr} {l:List ByteArray} {es:List En} (x:Lp w r h hi B ao l es) (ho:Only (fun _=>False) w w'):Lp w' r h hi B ao l es:=⟨x.strs.more ho,x.right,x.high,x.lf,x.few⟩
theorem Lp.read {w:World} {r:Int} {h:ByteArray} {hi:En} {B:Nat} {ao:Option Addr} {l:List ByteArray} {es:List En} (x:Lp w r h hi B ao l es) (a:Int) (cp:Nat):Calls Tryz.prog 83 #[.agg #[.int .i64 a,.int .i64 3,.int .i64 0,.int .i64 r,.string h,.slice ao l.length cp]] w fun e w'=>LfR w w' e hi es:=readLeaf_ok w a r h hi B cp ao l es x.strs x.right x.high x.few x.lf
theorem Lp.len {w:World} {r:Int} {h:ByteArray} {hi:En} {B:Nat} {ao:Option Addr} {l:List ByteArray} {es:List En} (x:Lp w r h hi B ao l es):es.length≤1048576:=by
  have:=x.lf.len
  have:=x.few
  omega
structure Ip (w:World) (v r:Int) (h:ByteArray) (hi:En) (B:Nat) (ao:Option Addr) (l:List ByteArray) (ks:List (En × Int)):Prop where
  strs:Strs w B ao l
  level:1≤v∧v≤255
  right:0≤r∧r≤65535
  high:HiIs h hi
  inn:InIs hi l ks
  few:l.length≤1048576
theorem Ip.more {w w':World} {v r:Int} {h:ByteArray} {hi:En} {B:Nat} {ao:Option Addr} {l:List ByteArray} {ks:List (En × Int)} (x:Ip w v r h hi B ao l ks) (ho:Only (fun _=>False) w w'):Ip w' v r h hi B ao l ks:=⟨x.strs.more ho,x.level,x.right,x.high,x.inn,x.few⟩
theorem Ip.read {w:World} {v r:Int} {h:ByteArray} {hi:En} {B:Nat} {ao:Option Addr} {l:List ByteArray} {ks:List (En × Int)} (x:Ip w v r h hi B ao l ks) (a:Int) (cp:Nat):Calls Tryz.prog 98 #[.agg #[.int .i64 a,.int .i64 3,.int .i64 v,.int .i64 r,.string h,.slice ao l.length cp]] w fun e w'=>InR w w' e hi ks:=readInner_ok w a v r h hi B cp ao l ks x.strs x.level x.right x.high x.few x.inn
theorem Ip.len {w:World} {v r:Int} {h:ByteArray} {hi:En} {B:Nat} {ao:Option Addr} {l:List ByteArray} {ks:List (En × Int)} (x:Ip w v r h hi B ao l ks):ks.length≤1048576:=by
  have:=x.inn.len
  have:=x.few
  omega
theorem Ets.base {w:World} {b c:Nat} {v:Value} {es:List En} (h:Ets w b v es) (hc:c≤b):Ets w c v es:=by
  obtain ⟨h3,h4⟩:=h
  refine ⟨h3,?_⟩
  rcases h4 with h4 | ⟨g,cap,cur,hv,hg,hh⟩
  · exact .inl h4
  · exact .inr ⟨g,cap,cur,hv,Nat.le_trans hc hg,hh⟩
theorem Kts.base {w:World} {b c:Nat} {v:Value} {es:List Int} (h:Kts w b v es) (hc:c≤b):Kts w c v es:=by
  obtain ⟨h3,h4⟩:=h
  refine ⟨h3,?_⟩
  rcases h4 with h4 | ⟨g,cap,cur,hv,hg,hh⟩
  · exact .inl h4
  · exact .inr ⟨g,cap,cur,hv,Nat.le_trans hc hg,hh⟩
def EnR (w w':World) (x:Ending) (es:List En):Prop:=∃ A C,x=.returned (.tuple #[.slice A es.length C,.int .i64 0])∧Ets w' w.heap.size (.slice A es.length C) es∧Only (fun _=>False) w w'
set_option maxHeartbeats 1600000 in
theorem entries_ok (w:World) (a r:Int) (h:ByteArray) (hi:En) (B cp:Nat) (ao:Option Addr) (l:List ByteArray) (es:List En) (hP:Lp w r h hi B ao l es) :
    Calls Tryz.prog 101 #[.agg #[.int .i64 a,.int .i64 3,.int .i64 0,.int .i64 r,.string h,.slice ao l.length cp]] w fun x w'=>EnR w w' x es:=by
  have HG:=hide (Pag.new w (.int .i64 a) (.int .i64 3) (.int .i64 0) (.int .i64 r) (.string h) (.slice ao l.length cp))
  have HO:=hide (onlyA w (.cells #[.int .i64 a,.int .i64 3,.int .i64 0,.int .i64 r,.string h,.slice ao l.length cp] 37))
  have HR:=hide ((hP.more HO.out).read a cp)
  clear hP
  go_enter Tryz.func101,Tryz.ntmps101
  go_upto_region 1 with fail
  obtain ⟨W0,hW0⟩:=exq (w.alloc (.cells #[.int .i64 a,.int .i64 3,.int .i64 0,.int .i64 r,.string h,.slice ao l.length cp] 37))
  rw [hW0] at HG HO HR ⊢
  clear hW0
  obtain ⟨p0,p1,p2,p3,p4,p5,_⟩:=HG.out
  go_wp2_with fail
  refine HR.out.mono ?_
  rintro x w1 ⟨A,C,rfl,he,ho⟩
  unfold cvv
  have HE:=hide he
  have HB:Hid (w.heap.size≤W0.heap.size):=HO.out.size
  have HO1:=hide (o2 HO.out ho)
  clear he ho p0 p1 p2 p3 p4 p5 HG HR
  go_upto_region 2 with fail
  have HA:=hide (onlyA w1 (.cells #[.slice A es.length C,.slice none 0 0,.string hi.key,.int .i64 hi.page,.int .i64 hi.slot] 164))
  have HC:=hide (Cv.new w1 (.slice A es.length C) (.slice none 0 0) hi)
  obtain ⟨w2,hw2⟩:=exq (w1.alloc (.cells #[.slice A es.length C,.slice none 0 0,.string hi.key,.int .i64 hi.page,.int .i64 hi.slot] 164))
  rw [hw2] at HA HC ⊢
  clear hw2
  have q0:=HC.out.c0
  go_wp2_with fail
  go_ret2
  exact ⟨A,C,rfl,(HE.out.more HA.out).base HB.out,o2 HO1.out HA.out⟩
def KdR (w w':World) (x:Ending) (ks:List (En × Int)):Prop:=∃ A C A2 C2,x=.returned (.tuple #[.slice A ks.length C,.slice A2 ks.length C2,.int .i64 0])∧Ets w' w.heap.size (.slice A ks.length C) (ks.map Prod.fst)∧Kts w' w.heap.size (.slice A2 ks.length C2) (ks.map Prod.snd)∧Only (fun _=>False) w w'
set_option maxHeartbeats 1600000 in
theorem kids_ok (w:World) (a v r:Int) (h:ByteArray) (hi:En) (B cp:Nat) (ao:Option Addr) (l:List ByteArray) (ks:List (En × Int)) (hP:Ip w v r h hi B ao l ks) :
    Calls Tryz.prog 103 #[.agg #[.int .i64 a,.int .i64 3,.int .i64 v,.int .i64 r,.string h,.slice ao l.length cp]] w fun x w'=>KdR w w' x ks:=by
  have HG:=hide (Pag.new w (.int .i64 a) (.int .i64 3) (.int .i64 v) (.int .i64 r) (.string h) (.slice ao l.length cp))
  have HO:=hide (onlyA w (.cells #[.int .i64 a,.int .i64 3,.int .i64 v,.int .i64 r,.string h,.slice ao l.length cp] 37))
  have HR:=hide ((hP.more HO.out).read a cp)
  clear hP
  go_enter Tryz.func103,Tryz.ntmps103
  go_upto_region 1 with fail
  obtain ⟨W0,hW0⟩:=exq (w.alloc (.cells #[.int .i64 a,.int .i64 3,.int .i64 v,.int .i64 r,.string h,.slice ao l.length cp] 37))
  rw [hW0] at HG HO HR ⊢
  clear hW0
  obtain ⟨p0,p1,p2,p3,p4,p5,_⟩:=HG.out
  go_wp2_with fail
  refine HR.out.mono ?_
  rintro x w1 ⟨A,C,A2,C2,rfl,he,hk,ho⟩
  unfold cvv
  have HE:=hide he
  have HK:=hide hk
  have HB:Hid (w.heap.size≤W0.heap.size):=HO.out.size
  have HO1:=hide (o2 HO.out ho)
  clear he hk ho p0 p1 p2 p3 p4 p5 HG HR
  go_upto_region 2 with fail
  have HA:=hide (onlyA w1 (.cells #[.slice A ks.length C,.slice A2 ks.length C2,.string hi.key,.int .i64 hi.page,.int .i64 hi.slot] 164))
  have HC:=hide (Cv.new w1 (.slice A ks.length C) (.slice A2 ks.length C2) hi)
  obtain ⟨cb,hcb⟩:=exq (w1.heap.size)
  rw [hcb] at HC ⊢
  clear hcb
  obtain ⟨w2,hw2⟩:=exq (w1.alloc (.cells #[.slice A ks.length C,.slice A2 ks.length C2,.string hi.key,.int .i64 hi.page,.int .i64 hi.slot] 164))
  rw [hw2] at HA HC ⊢
  clear hw2
  go_upto_region 4 with fail
  -- {k4
  refine wp_region_noPanic ?_
  refine wp_region_held_drew (S:=fun W=>Only (fun _=>False) w2 W) (by kernel_rfl) (Only.drew _ _) (fun hHeld=>?_)
  refine tkP 0 (.pointer (some ⟨cb,0,none⟩)) rfl ?_
  refine tkP 2 (.pointer (some ⟨cb,1,none⟩)) rfl ?_
  refine tkQ 1 (.slice A ks.length C) rfl (yieldsIf_load_cell (by rfl) 92 _ rfl _ rfl (fun W hW=>(HC.out.more hW).c0) (fun W hc=>ld_entries hc)) ?_
  refine tkQ 3 (.slice A2 ks.length C2) rfl (yieldsIf_load_cell (by rfl) 38 _ rfl _ rfl (fun W hW=>(HC.out.more hW).c1) (fun W hc=>ld_ints hc)) ?_
  refine tkP 4 (.slice A ks.length C) rfl ?_
  refine tkP 5 (.slice A2 ks.length C2) rfl ?_
  refine tkP 6 (.int .i64 0) rfl ?_
  refine dnN ?_
  -- k4}
  go_wp2_with fail
  go_ret3
  exact ⟨A,C,A2,C2,rfl,((HE.out.more HA.out).more (Only.drew _ _)).base HB.out,((HK.out.more HA.out).more (Only.drew _ _)).base HB.out,o2 (o2 HO1.out HA.out) (Only.drew _ _)⟩
set_option maxHeartbeats 1600000 in
theorem read_leaf (w:World) (a r:Int) (h:ByteArray) (hi:En) (B cp:Nat) (ao:Option Addr) (l:List ByteArray) (es:List En) (hP:Lp w r h hi B ao l es) :
    Calls Tryz.prog 96 #[.agg #[.int .i64 a,.int .i64 3,.int .i64 0,.int .i64 r,.string h,.slice ao l.length cp]] w fun x w'=>LfR w w' x hi es:=by
  have HX:=hide (lf_new w (.int .i64 a) (.int .i64 3) (.int .i64 0) (.int .i64 r) (.string h) (.slice ao l.length cp))
  have HR:=hide ((hP.more HX.out.2.2).read a cp)
  clear hP
  go_enter Tryz.func96,Tryz.ntmps96
  go_upto_region 1 with fail
  obtain ⟨W0,hW0⟩:=exq ((w.alloc (.cells #[.int .i64 a,.int .i64 3,.int .i64 0,.int .i64 r,.string h,.slice ao l.length cp] 37)).alloc (.cells #[.slice none 0 0,.slice none 0 0,.string ⟨#[]⟩,.int .i64 0,.int .i64 0] 164))
  rw [hW0] at HX HR ⊢
  clear hW0
  obtain ⟨p0,p1,p2,p3,p4,p5,_⟩:=HX.out.1
  go_wp2_with fail
  refine HR.out.mono ?_
  rintro x w1 ⟨A,C,rfl,he,ho⟩
  unfold cvv
  have HE:=hide he
  have HC:=hide (HX.out.2.1.more ho)
  have HB:Hid (w.heap.size+1 < W0.heap.size):=HX.out.2.1.lt
  have HO1:=hide (o2 HX.out.2.2 ho)
  clear he ho p0 p1 p2 p3 p4 p5 HR
  obtain ⟨r0,r1,r2,r3,r4,f0,f1,f2,f3,f4,_⟩:=HC.out
  go_wp2_with fail
  refine bodyPost_ret (results_cv rfl rfl (HC.out.all _ _ hi)) rfl ?_
  have hfive:=Only.five w1 (w.heap.size+1) (.slice A es.length C) (.slice none 0 0) (.string hi.key) (.int .i64 hi.page) (.int .i64 hi.slot)
  refine ⟨A,C,rfl,(HE.out.kept hfive (fun k hk=>?_)).base (by have:=HB.out; omega),HO1.out.trans hfive (fun i hi e=>by omega)⟩
  have:=(World.ownsRow.lt HE.out k hk).1
  have:=HB.out
  omega
def byV (hi e:En):Value:=if e.ok=true then .tuple #[.bool (byd hi e),.int .i64 0] else .tuple #[.bool false,.int .i64 140]
theorem pe_new (w:World) (v0 v1 v2 v3 v4 v5:Value) (e:En):Pag ((w.alloc (.cells #[v0,v1,v2,v3,v4,v5] 37)).alloc (.cells #[.string e.key,.int .i64 e.page,.int .i64 e.slot] 89)) w.heap.size v0 v1 v2 v3 v4 v5∧Ev ((w.alloc (.cells #[v0,v1,v2,v3,v4,v5] 37)).alloc (.cells #[.string e.key,.int .i64 e.page,.int .i64 e.slot] 89)) (w.heap.size+1) e∧Only (fun _=>False) w ((w.alloc (.cells #[v0,v1,v2,v3,v4,v5] 37)).alloc (.cells #[.string e.key,.int .i64 e.page,.int .i64 e.slot] 89)):=by
  refine ⟨(Pag.new w v0 v1 v2 v3 v4 v5).more (onlyA _ _),?_,o2 (onlyA _ _) (onlyA _ _)⟩
  have e1:=Ev.new (w.alloc (.cells #[v0,v1,v2,v3,v4,v5] 37)) e
  rw [World.size_alloc] at e1
  exact e1
def chE (ks:List (En × Int)) (e:En):Int:=(ks.getD (plE (ks.map Prod.fst) e - 1) (noE,0)).2
def chV (ks:List (En × Int)) (hi e:En):Value:=if e.ok=true∧byd hi e=false then .tuple #[.int .i64 (chE ks e),.int .i64 0] else .tuple #[.int .i64 0,.int .i64 140]
theorem pl_pos {hi:En} {l:List ByteArray} {ks:List (En × Int)} (h:InIs hi l ks) {e:En} (he:e.ok=true):∃ P,plE (ks.map Prod.fst) e=P+1∧P < ks.length:=by
  obtain ⟨c,r,rfl⟩:=h.first
  have h1:0 < plE (((noE,c) :: r).map Prod.fst) e:=by
    unfold plE
    rw [List.map_cons,List.countP_cons_of_pos (by simpa using noE_lt he)]
    omega
  have h2:=plE_le (((noE,c) :: r).map Prod.fst) e
  rw [List.length_map] at h2
  exact ⟨plE (((noE,c) :: r).map Prod.fst) e - 1,by omega,by omega⟩
theorem Ets.elsOf {w:World} {base:Nat} {A:Option Addr} {n C:Nat} {es:List En} (h:Ets w base (.slice A n C) es):∃ B,Els w B A es∧es.length=n:=by
  obtain ⟨B,ao,cp,hv,he,_⟩:=h.els
  injection hv with h1 h2 h3
  subst h1
  exact ⟨B,he,h2.symm⟩
set_option maxHeartbeats 3200000 in
theorem child_ok (w:World) (a v r:Int) (h:ByteArray) (hi e:En) (B cp:Nat) (ao:Option Addr) (l:List ByteArray) (ks:List (En × Int)) (hP:Ip w v r h hi B ao l ks) :
    Calls Tryz.prog 54 #[.agg #[.int .i64 a,.int .i64 3,.int .i64 v,.int .i64 r,.string h,.slice ao l.length cp],e.agg] w fun x w'=>x=.returned (chV ks hi e)∧Only (fun _=>False) w w':=by
  have HX:=hide (pe_new w (.int .i64 a) (.int .i64 3) (.int .i64 v) (.int .i64 r) (.string h) (.slice ao l.length cp) e)
  have HR:=hide ((hP.more HX.out.2.2).read a cp)
  have HIE:Hid (∀ W,Calls Tryz.prog 84 #[.agg #[.string e.key,.int .i64 e.page,.int .i64 e.slot]] W fun x w'=>x=.returned (.bool e.ok)∧Only (fun _=>False) W w'):=fun W=>isEntry_any e W
  have HBY:Hid (∀ W (A1 A2:Option Addr) (n1 n2 C1 C2:Nat),Calls Tryz.prog 85 #[.agg #[.slice A1 n1 C1,.slice A2 n2 C2,.string hi.key,.int .i64 hi.page,.int .i64 hi.slot],.agg #[.string e.key,.int .i64 e.page,.int .i64 e.slot]] W fun x w'=>x=.returned (.bool (byd hi e))∧Only (fun _=>False) W w'):=fun W A1 A2 n1 n2 C1 C2=>isBeyond_any W A1 A2 n1 n2 C1 C2 hi e
  have HPL:Hid (∀ (W:World) (A1 A2:Option Addr) (n1 n2 C1 C2:Nat) (base:Nat),Ets W base (.slice A1 n1 C1) (ks.map Prod.fst)→Calls Tryz.prog 86 #[.agg #[.slice A1 n1 C1,.slice A2 n2 C2,.string hi.key,.int .i64 hi.page,.int .i64 hi.slot],.agg #[.string e.key,.int .i64 e.page,.int .i64 e.slot]] W fun x w'=>x=.returned (plV (ks.map Prod.fst) e)∧Only (fun _=>False) W w'):=fun W A1 A2 n1 n2 C1 C2 base hE=>by
    obtain ⟨B1,hels,hln⟩:=hE.elsOf
    exact place_any W B1 n1 C1 A1 A2 n2 C2 hi (ks.map Prod.fst) e hels hln (by have:=hP.len; rw [← hln,List.length_map]; omega) hP.inn.rise
  have HPP:=hide (fun he=>pl_pos hP.inn (e:=e) he)
  have HKL:=hide hP.len
  clear hP
  obtain ⟨R,hR⟩:=exq (chV ks hi e)
  have HRV:Hid (R=if e.ok=true∧byd hi e=false then .tuple #[.int .i64 (chE ks e),.int .i64 0] else .tuple #[.int .i64 0,.int .i64 140]):=hR.symm
  rw [hR]
  obtain ⟨O,hO⟩:=exq (e.ok)
  obtain ⟨Y,hY⟩:=exq (byd hi e)
  rw [hO] at HIE HPP HRV
  rw [hY] at HBY HRV
  clear hO hY hR
  unfold En.agg
  go_enter Tryz.func54,Tryz.ntmps54
  go_upto_region 1 with fail
  obtain ⟨W0,hW0⟩:=exq ((w.alloc (.cells #[.int .i64 a,.int .i64 3,.int .i64 v,.int .i64 r,.string h,.slice ao l.length cp] 37)).alloc (.cells #[.string e.key,.int .i64 e.page,.int .i64 e.slot] 89))
  rw [hW0] at HX HR ⊢
  clear hW0
  obtain ⟨p0,p1,p2,p3,p4,p5,_⟩:=HX.out.1
  go_wp2_with fail
  refine HR.out.mono ?_
  rintro x w1 ⟨A,C,A2,C2,rfl,he,hk,ho⟩
  unfold cvv
  have HV1:=hide (HX.out.2.1.more ho)
  have HO1:=hide (o2 HX.out.2.2 ho)
  have HE1:=hide he
  have HK1:=hide hk
  clear he hk ho p0 p1 p2 p3 p4 p5 HR HX
  go_upto_region 2 with fail
  have HA:=hide (onlyA w1 (.cells #[.slice A ks.length C,.slice A2 ks.length C2,.string hi.key,.int .i64 hi.page,.int .i64 hi.slot] 164))
  have HC:=hide (Cv.new w1 (.slice A ks.length C) (.slice A2 ks.length C2) hi)
  obtain ⟨cb,hcb⟩:=exq (w1.heap.size)
  rw [hcb] at HC ⊢
  clear hcb
  obtain ⟨w2,hw2⟩:=exq (w1.alloc (.cells #[.slice A ks.length C,.slice A2 ks.length C2,.string hi.key,.int .i64 hi.page,.int .i64 hi.slot] 164))
  rw [hw2] at HA HC ⊢
  clear hw2
  have HV2:=hide (HV1.out.more HA.out)
  have HO2:=hide (o2 HO1.out HA.out)
  have HE2:=hide (HE1.out.more HA.out)
  have HK2:=hide (HK1.out.more HA.out)
  clear HA HV1 HO1 HE1 HK1
  obtain ⟨d0,d1,d2,_⟩:=HV2.out
  go_wp2_with fail
  refine (HIE.out _).mono ?_
  rintro x w3 ⟨rfl,ho⟩
  have HV3:=hide (HV2.out.more ho)
  have HC3:=hide (HC.out.more ho)
  have HO3:=hide (o2 HO2.out ho)
  have HE3:=hide (HE2.out.more ho)
  have HK3:=hide (HK2.out.more ho)
  clear ho d0 d1 d2 HV2 HC HO2 HE2 HK2
  cases O with
  | false=>
    have HRX:Hid (R=.tuple #[.int .i64 0,.int .i64 140]):=by unfold Hid; rw [HRV.out,if_neg (by simp)]
    clear HPP HPL HRV
    go_wp2_with fail
    go_ret2
    exact ⟨by rw [HRX.out]; rfl,HO3.out⟩
  | true=>
    obtain ⟨P,hP1,hP2⟩:=HPP.out rfl
    have HP1:=hide hP1
    clear hP1 HPP
    obtain ⟨d0,d1,d2,_⟩:=HV3.out
    obtain ⟨q0,q1,q2,q3,q4,_⟩:=HC3.out
    go_wp2_with fail
    refine (HBY.out _ _ _ _ _ _ _).mono ?_
    rintro x w4 ⟨rfl,ho⟩
    have HV4:=hide (HV3.out.more ho)
    have HC4:=hide (HC3.out.more ho)
    have HO4:=hide (o2 HO3.out ho)
    have HE4:=hide (HE3.out.more ho)
    have HK4:=hide (HK3.out.more ho)
    clear ho d0 d1 d2 q0 q1 q2 q3 q4 HV3 HC3 HO3 HE3 HK3
    cases Y with
    | true=>
      have HRX:Hid (R=.tuple #[.int .i64 0,.int .i64 140]):=by unfold Hid; rw [HRV.out,if_neg (by simp)]
      clear HPL HRV
      go_wp2_with fail
      go_ret2
      exact ⟨by rw [HRX.out]; rfl,HO4.out⟩
    | false=>
      have HRX:Hid (R=.tuple #[.int .i64 (chE ks e),.int .i64 0]):=by unfold Hid; rw [HRV.out,if_pos (by simp)]
      clear HRV
      obtain ⟨d0,d1,d2,_⟩:=HV4.out
      obtain ⟨q0,q1,q2,q3,q4,_⟩:=HC4.out
      have HPL1:=hide (HPL.out w4 A A2 ks.length ks.length C C2 _ HE4.out)
      unfold plV at HPL1
      obtain ⟨D,hD⟩:=exq (decide (e ∈ ks.map Prod.fst))
      rw [HP1.out,hD] at HPL1
      clear hD HPL
      go_wp2_with fail
      refine HPL1.out.mono ?_
      rintro x w5 ⟨rfl,ho⟩
      have HC5:=hide (HC4.out.more ho)
      have HO5:=hide (o2 HO4.out ho)
      obtain ⟨g,cg,hv,_,hgl,hcell⟩:=(HK4.out.more ho).at_ P (by rw [List.length_map]; exact hP2)
      rw [List.getElem_map,List.length_map] at *
      injection hv with hv1 hv2 hv3
      subst hv1
      clear ho d0 d1 d2 q0 q1 q2 q3 q4 hv2 hv3 hgl
      have q1:=HC5.out.c1
      have hwn:IntKind.i64.wrap (P:Int)=(P:Int):=by have:=HKL.out; rw [IntKind.wrap_i64]; omega
      have hb1:¬ (ks.length:Int)≤(P:Int):=by omega
      have hb2:(P:Int) < (ks.length:Int):=by omega
      have HQ:Hid (chE ks e=ks[P].2):=by
        unfold Hid chE
        rw [HP1.out,Nat.add_sub_cancel,List.getD_eq_getElem?_getD,List.getElem?_eq_getElem hP2]
        rfl
      obtain ⟨kd,hkd⟩:=exq (ks[P].2)
      rw [hkd] at HQ hcell
      clear hkd
      go_wp2_with fail
      go_ret2
      exact ⟨by rw [HRX.out,HQ.out]; rfl,HO5.out⟩
section Split
variable {N:Nat} {F:Nat→Nd} {lo:Nat→En} {A:En→Prop}
theorem Nd.rest_mem {x:Nd} (hn:2≤x.ks.length) {k:En × Int} (hk:k ∈ x.rest):k ∈ x.ks∨(0 < x.lv∧∃ h:x.half < x.ks.length,k=(noE,(x.ks[x.half]).2)):=by
  rcases Nat.eq_zero_or_pos x.lv with v | v
  · unfold Nd.rest at hk
    rw [if_pos v] at hk
    exact .inl (List.mem_of_mem_drop hk)
  · obtain ⟨h1,e⟩:=Nd.rest_inner v hn
    rw [e] at hk
    rcases List.mem_cons.1 hk with rfl | hk
    · exact .inr ⟨v,h1,rfl⟩
    · exact .inl (List.mem_of_mem_drop hk)
def Nd.over (x:Nd) (a b:Nat):Nd:=⟨x.lv+1,0,noE,[(noE,(a:Int)),(x.bord,(b:Int))]⟩
end Split
end Go.Proofs.YtajjakljheafjaaGreat
