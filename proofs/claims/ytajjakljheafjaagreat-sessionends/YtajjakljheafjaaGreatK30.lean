/- Parts. -/
import Derived.Test.YtajjakljheafjaaGreatK29
import Derived.Test.YtajjakljheafjaaGreatK27
import Derived.Lib.AppendZeros
import Derived.Test.YtajjakljheafjaaGreatK28
set_option maxRecDepth 100000
namespace Go.Proofs.YtajjakljheafjaaGreat
open Go.RowKit
def rdB (k v r:Int) (h:ByteArray) (l:List ByteArray):Bool:=if v=0 then lfB k v r h l else inB k v r h l
theorem read_any2 (w:World) (a k v r:Int) (h:ByteArray) (B cp:Nat) (ao:Option Addr) (l:List ByteArray) (hS:Strs w B ao l) (hl:l.length≤8796093021952) :
    Calls Tryz.prog 96 #[pgv a k v r h ao l.length cp] w fun e w'=>CvR e (rdB k v r h l)∧Only (fun _=>False) w w':=by
  have HX:=hide (lf_new w (.int .i64 a) (.int .i64 k) (.int .i64 v) (.int .i64 r) (.string h) (.slice ao l.length cp))
  have HRL:=hide (readLeaf_any _ a k v r h B cp ao l (hS.more HX.out.2.2) hl)
  have HRI:=hide (readInner_any _ a k v r h B cp ao l (hS.more HX.out.2.2) hl)
  obtain ⟨b,hb⟩:=exq (rdB k v r h l)
  rw [hb]
  have HB:=hide hb
  unfold rdB at HB
  clear hb hS hl
  unfold pgv at HRL HRI ⊢
  by_cases hv:v=0
  · rw [if_pos hv] at HB
    rw [HB.out] at HRL
    have hv0:(v == 0)=true:=by simpa using hv
    clear hv HB HRI
    go_enter Tryz.func96,Tryz.ntmps96
    go_upto_region 1 with fail
    obtain ⟨W0,hW0⟩:=exq ((w.alloc (.cells #[.int .i64 a,.int .i64 k,.int .i64 v,.int .i64 r,.string h,.slice ao l.length cp] 37)).alloc (.cells #[.slice none 0 0,.slice none 0 0,.string ⟨#[]⟩,.int .i64 0,.int .i64 0] 164))
    rw [hW0] at HX HRL ⊢
    clear hW0
    obtain ⟨p0,p1,p2,p3,p4,p5,_⟩:=HX.out.1
    go_wp2_with fail
    refine HRL.out.mono ?_
    rintro x w1 ⟨⟨a1,n1,c1,a2,n2,c2,H,rfl⟩,ho⟩
    unfold cvv
    have HC:=hide (HX.out.2.1.more ho)
    have HO1:=hide (o2 HX.out.2.2 ho)
    clear ho p0 p1 p2 p3 p4 p5 HRL
    obtain ⟨r0,r1,r2,r3,r4,f0,f1,f2,f3,f4,_⟩:=HC.out
    go_wp2_with fail
    refine bodyPost_ret (results_cv rfl rfl (HC.out.all _ _ H)) rfl ?_
    have hfive:=Only.five w1 (w.heap.size+1) (.slice a1 n1 c1) (.slice a2 n2 c2) (.string H.key) (.int .i64 H.page) (.int .i64 H.slot)
    exact ⟨⟨_,_,_,_,_,_,_,rfl⟩,HO1.out.trans hfive (fun i hi e=>by omega)⟩
  · rw [if_neg hv] at HB
    rw [HB.out] at HRI
    have hv0:(v == 0)=false:=by simpa using hv
    clear hv HB HRL
    go_enter Tryz.func96,Tryz.ntmps96
    go_upto_region 1 with fail
    obtain ⟨W0,hW0⟩:=exq ((w.alloc (.cells #[.int .i64 a,.int .i64 k,.int .i64 v,.int .i64 r,.string h,.slice ao l.length cp] 37)).alloc (.cells #[.slice none 0 0,.slice none 0 0,.string ⟨#[]⟩,.int .i64 0,.int .i64 0] 164))
    rw [hW0] at HX HRI ⊢
    clear hW0
    obtain ⟨p0,p1,p2,p3,p4,p5,_⟩:=HX.out.1
    go_wp2_with fail
    refine HRI.out.mono ?_
    rintro x w1 ⟨⟨a1,n1,c1,a2,n2,c2,H,rfl⟩,ho⟩
    unfold cvv
    have HC:=hide (HX.out.2.1.more ho)
    have HO1:=hide (o2 HX.out.2.2 ho)
    clear ho p0 p1 p2 p3 p4 p5 HRI
    obtain ⟨r0,r1,r2,r3,r4,f0,f1,f2,f3,f4,_⟩:=HC.out
    go_wp2_with fail
    refine bodyPost_ret (results_cv rfl rfl (HC.out.all _ _ H)) rfl ?_
    have hfive:=Only.five w1 (w.heap.size+1) (.slice a1 n1 c1) (.slice a2 n2 c2) (.string H.key) (.int .i64 H.page) (.int .i64 H.slot)
    exact ⟨⟨_,_,_,_,_,_,_,rfl⟩,HO1.out.trans hfive (fun i hi e=>by omega)⟩
def ckB (a k v r:Int) (h:ByteArray) (l:List ByteArray):Bool:=rdB k v r h l && decide ((Pg.out ⟨a,k,v,r,h,l⟩).2=0)
def ckC (b:Bool):Int:=if b=true then 0 else 140
set_option maxHeartbeats 1600000 in
theorem check_any (w:World) (a k v r:Int) (h:ByteArray) (B cp:Nat) (ao:Option Addr) (l:List ByteArray) (hS:Strs w B ao l) (hl:l.length≤8796093021952) (hh:h.size≤140737488355328) (ha:a < 9223372036854775808) :
    Calls Tryz.prog 52 #[pgv a k v r h ao l.length cp] w fun x w'=>x=.returned (.int .i64 (ckC (ckB a k v r h l)))∧Only (fun _=>False) w w':=by
  have HP:=hide (Pag.new w (.int .i64 a) (.int .i64 k) (.int .i64 v) (.int .i64 r) (.string h) (.slice ao l.length cp))
  have HO:=hide (onlyA w (.cells #[.int .i64 a,.int .i64 k,.int .i64 v,.int .i64 r,.string h,.slice ao l.length cp] 37))
  have HR:Hid (∀ W,Only (fun _=>False) w W→Calls Tryz.prog 96 #[.agg #[.int .i64 a,.int .i64 k,.int .i64 v,.int .i64 r,.string h,.slice ao l.length cp]] W fun x w'=>CvR x (rdB k v r h l)∧Only (fun _=>False) W w'):=fun W ho=>read_any2 W a k v r h B cp ao l (hS.more ho) hl
  have HE:Hid (∀ W,Only (fun _=>False) w W→Calls Tryz.prog 97 #[.agg #[.int .i64 a,.int .i64 k,.int .i64 v,.int .i64 r,.string h,.slice ao l.length cp]] W fun x w'=>(∃ s,x=.returned (.tuple #[.string s,.int .i64 (Pg.out ⟨a,k,v,r,h,l⟩).2]))∧Only (fun _=>False) W w'):=fun W ho=>by
    refine (pencode_any W a k v r h B cp ao l (hS.more ho) hh ha).mono ?_
    rintro x w' ⟨rfl,ho'⟩
    exact ⟨⟨_,rfl⟩,ho'⟩
  unfold ckB
  obtain ⟨b,hb⟩:=exq (rdB k v r h l)
  obtain ⟨c,hc⟩:=exq ((Pg.out ⟨a,k,v,r,h,l⟩).2)
  rw [hb] at HR ⊢
  rw [hc] at HE ⊢
  obtain ⟨z,hz⟩:=exq (ckC (b && decide (c=0)))
  rw [hz]
  have HZ:=hide hz
  clear hb hc hS hl hh ha hz
  unfold pgv
  go_enter Tryz.func52,Tryz.ntmps52
  go_upto_region 1 with fail
  obtain ⟨n,hn⟩:=exq (l.length)
  rw [hn] at HP HO HR HE ⊢
  clear hn
  obtain ⟨W0,hW0⟩:=exq (w.alloc (.cells #[.int .i64 a,.int .i64 k,.int .i64 v,.int .i64 r,.string h,.slice ao n cp] 37))
  rw [hW0] at HP HO ⊢
  clear hW0
  obtain ⟨p0,p1,p2,p3,p4,p5,_⟩:=HP.out
  go_wp2_with fail
  refine (HR.out _ HO.out).mono ?_
  rintro x w1 ⟨⟨a1,n1,c1,a2,n2,c2,H,rfl⟩,ho⟩
  unfold cvv
  have HP1:=hide (HP.out.more ho)
  have HO1:=hide (o2 HO.out ho)
  clear ho p0 p1 p2 p3 p4 p5 HP HO HR
  go_upto_region 2 with fail
  have HA:=hide (onlyA w1 (.cells #[.slice a1 n1 c1,.slice a2 n2 c2,.string H.key,.int .i64 H.page,.int .i64 H.slot] 164))
  obtain ⟨w2,hw2⟩:=exq (w1.alloc (.cells #[.slice a1 n1 c1,.slice a2 n2 c2,.string H.key,.int .i64 H.page,.int .i64 H.slot] 164))
  rw [hw2] at HA ⊢
  clear hw2
  have HP2:=hide (HP1.out.more HA.out)
  have HO2:=hide (o2 HO1.out HA.out)
  clear HA HP1 HO1
  obtain ⟨p0,p1,p2,p3,p4,p5,_⟩:=HP2.out
  cases b with
  | false=>
    have HZ2:Hid (140=z):=HZ.out
    clear HZ
    go_wp2_with fail
    go_ret
    obtain rfl:=HZ2.out
    exact ⟨rfl,HO2.out⟩
  | true=>
    go_wp2_with fail
    refine (HE.out _ HO2.out).mono ?_
    rintro x w3 ⟨⟨s,rfl⟩,ho⟩
    have HO3:=hide (o2 HO2.out ho)
    clear ho
    by_cases hc0:c=0
    · have HZ2:Hid (0=z):=by
        have q:=HZ.out
        rw [decide_eq_true hc0] at q
        exact q
      subst hc0
      clear HZ
      go_wp2_with fail
      go_ret
      obtain rfl:=HZ2.out
      exact ⟨rfl,HO3.out⟩
    · have HZ2:Hid (140=z):=by
        have q:=HZ.out
        rw [decide_eq_false hc0] at q
        exact q
      have hc1:(c != 0)=true:=by simpa using hc0
      clear HZ
      go_wp2_with fail
      go_ret
      obtain rfl:=HZ2.out
      exact ⟨rfl,HO3.out⟩
theorem rdI_tail {hi:En}:∀ {l:List ByteArray} {x:En} {ks:List (En × Int)},rdI hi (some x) l=some ks→(x=noE∨x.ok=true)→l=ks.map (fun k=>k.1.encS k.2)∧Rise (ks.map Prod.fst)∧(∀ k ∈ ks,k.1.ok=true∧blw hi k.1=true∧okC k.2=true∧x.lt k.1)
  | [],x,ks,h,_=>by
    rw [rdI] at h
    cases h
    exact ⟨rfl,List.Pairwise.nil,fun _ h=>by cases h⟩
  | s :: l,x,ks,h,hx=>by
    rw [rdI] at h
    cases hd:decS (bl s) with
    | none=>rw [hd] at h; cases h
    | some kk=>
      obtain ⟨e,c⟩:=kk
      rw [hd] at h
      simp only [] at h
      split at h
      · rename_i hc
        cases hr:rdI hi (some e) l with
        | none=>rw [hr] at h; cases h
        | some fs=>
          rw [hr] at h
          cases h
          obtain ⟨o1,o2,o3⟩:=decS_some hd
          have hc':x.lt e∧blw hi e=true:=by
            unfold okI at hc
            simpa using hc
          have ho:e.ok=true:=by
            rcases En.sp_iff.1 o1 with z | z
            · rw [z] at hc'
              exact absurd hc'.1 (not_lt_noE (En.sp_iff.2 hx))
            · exact z
          obtain ⟨k1,k2,k3⟩:=rdI_tail hr (.inr ho)
          refine ⟨?_,?_,?_⟩
          · rw [List.map_cons,← k1,show s=e.encS c by unfold En.encS; rw [← o3,str_bl]]
          · rw [List.map_cons]
            refine List.pairwise_cons.2 ⟨fun y hy=>?_,k2⟩
            obtain ⟨k,hk,rfl⟩:=List.mem_map.1 hy
            exact (k3 k hk).2.2.2
          · intro k hk
            rcases List.mem_cons.1 hk with rfl | hk
            · exact ⟨ho,hc'.2,o2,hc'.1⟩
            · obtain ⟨q1,q2,q3,q4⟩:=k3 k hk
              exact ⟨q1,q2,q3,En.lt_trans hc'.1 q4⟩
      · cases h
theorem rdI_some {hi:En} {l:List ByteArray} {ks:List (En × Int)} (h:rdI hi none l=some ks) (hl:¬ l=[]):InIs hi l ks∧∀ k ∈ ks.tail,noE.lt k.1:=by
  cases l with
  | nil=>exact absurd rfl hl
  | cons s l=>
    rw [rdI] at h
    cases hd:decS (bl s) with
    | none=>rw [hd] at h; cases h
    | some kk=>
      obtain ⟨e,c⟩:=kk
      rw [hd] at h
      simp only [] at h
      split at h
      · rename_i hc
        cases hr:rdI hi (some e) l with
        | none=>rw [hr] at h; cases h
        | some fs=>
          rw [hr] at h
          cases h
          obtain ⟨o1,o2,o3⟩:=decS_some hd
          have he:e=noE:=by
            unfold okI at hc
            simpa using hc
          subst he
          obtain ⟨k1,k2,k3⟩:=rdI_tail hr (.inl rfl)
          refine ⟨⟨?_,?_,⟨c,fs,rfl⟩,fun k hk=>⟨(k3 k hk).1,(k3 k hk).2.1⟩,?_⟩,fun k hk=>(k3 k hk).2.2.2⟩
          · rw [List.map_cons,← k1,show s=noE.encS c by unfold En.encS; rw [← o3,str_bl]]
          · rw [List.map_cons]
            refine List.pairwise_cons.2 ⟨fun y hy=>?_,k2⟩
            obtain ⟨k,hk,rfl⟩:=List.mem_map.1 hy
            exact (k3 k hk).2.2.2
          · intro k hk
            rcases List.mem_cons.1 hk with rfl | hk
            · exact o2
            · exact (k3 k hk).2.2.1
      · cases h
theorem hdO_hi {k v r:Int} {h:ByteArray} {hi:En} (q:hdO k v r h=some hi):(hi=noE∨hi.ok=true)∧h=hiB hi:=by
  have c:=hdO_kind q
  unfold hdO at q
  rw [if_pos c] at q
  by_cases hx:h=⟨#[]⟩
  · rw [if_pos hx] at q
    cases q
    exact ⟨.inl rfl,by unfold hiB; rw [if_pos rfl]; exact hx⟩
  · rw [if_neg hx] at q
    obtain ⟨o1,o2⟩:=decE_some q
    refine ⟨.inr o1,?_⟩
    unfold hiB
    rw [if_neg (En.ok_ne o1)]
    unfold En.enc
    rw [← o2,str_bl]
theorem out_zero {p:Pg} (h:p.out.2=0):p.inRange∧p.fits:=by
  unfold Pg.out at h
  by_cases h1:p.inRange
  · rw [if_pos h1] at h
    by_cases h2:p.fits
    · exact ⟨h1,h2⟩
    · rw [if_neg h2] at h
      cases h
  · rw [if_neg h1] at h
    cases h
theorem ckB_node {a k v r:Int} {h:ByteArray} {l:List ByteArray} (q:ckB a k v r h l=true):0≤a∧∃ X:Nd,Gd X∧k=3∧v=(X.lv:Int)∧r=(X.rt:Int)∧h=hiB X.hi∧l=X.items:=by
  unfold ckB at q
  rw [Bool.and_eq_true,decide_eq_true_iff] at q
  obtain ⟨q1,q2⟩:=q
  obtain ⟨i1,i2⟩:=out_zero q2
  have hsz:20+h.size+isz l≤512:=by
    have:=i2.2.2
    unfold Pg.size at this
    simp only [] at this
    omega
  refine ⟨i1.1,?_⟩
  unfold rdB at q1
  by_cases hv:v=0
  · rw [if_pos hv] at q1
    unfold lfB at q1
    cases hH:hdO k v r h with
    | none=>rw [hH] at q1; cases q1
    | some hi=>
      rw [hH] at q1
      simp only [Bool.and_eq_true] at q1
      obtain ⟨es,hes⟩:=Option.isSome_iff_exists.1 q1.2
      obtain ⟨k1,k2⟩:=rdL_some hes
      obtain ⟨c1,c2,c3,c4,c5⟩:=hdO_kind hH
      obtain ⟨d1,d2⟩:=hdO_hi hH
      have hes':(Nd.mk 0 r.toNat hi (es.map fun e=>(e,(0:Int)))).es=es:=by
        show (es.map fun e=>(e,(0:Int))).map Prod.fst=es
        rw [List.map_map]
        exact List.map_id es
      have hit:(Nd.mk 0 r.toNat hi (es.map fun e=>(e,(0:Int)))).items=l:=by
        rw [Nd.items_leaf rfl,hes',k1.items]
      refine ⟨⟨0,r.toNat,hi,es.map fun e=>(e,(0:Int))⟩,⟨by simp,by simp only []; omega,⟨noE,⟨?_,?_,?_,?_,?_,?_⟩⟩,fun z=>by cases z⟩,c1,by rw [hv]; rfl,by simp only []; omega,d2,hit.symm⟩
      · rw [hes']; exact k1.rise
      · rcases d1 with z | z
        · exact .inl z
        · exact .inr ⟨z,noE_lt z⟩
      · intro _ kk hk
        obtain ⟨e,he,rfl⟩:=List.mem_map.1 hk
        exact ⟨k1.ok e he,rfl,k2 e he,k1.in_ e he⟩
      · intro z; cases z
      · intro z; cases z
      · unfold Nd.size
        rw [hit]
        simp only []
        rw [← d2]
        exact hsz
  · rw [if_neg hv] at q1
    unfold inB at q1
    cases hH:hdO k v r h with
    | none=>rw [hH] at q1; cases q1
    | some hi=>
      rw [hH] at q1
      simp only [Bool.and_eq_true] at q1
      obtain ⟨ks,hks⟩:=Option.isSome_iff_exists.1 q1.2.2
      have hl:¬ l=[]:=by
        intro z
        have:=q1.2.1
        rw [decide_eq_true z] at this
        cases this
      obtain ⟨k1,k2⟩:=rdI_some hks hl
      obtain ⟨c1,c2,c3,c4,c5⟩:=hdO_kind hH
      obtain ⟨d1,d2⟩:=hdO_hi hH
      have hp:0 < v.toNat:=by omega
      have hit:(Nd.mk v.toNat r.toNat hi ks).items=l:=by
        rw [Nd.items_inner hp,k1.items]
      refine ⟨⟨v.toNat,r.toNat,hi,ks⟩,⟨by simp only []; omega,by simp only []; omega,⟨noE,⟨k1.rise,?_,?_,fun _=>k1.first,?_,?_⟩⟩,fun _=>k1.kid⟩,c1,by simp only []; omega,by simp only []; omega,d2,hit.symm⟩
      · rcases d1 with z | z
        · exact .inl z
        · exact .inr ⟨z,noE_lt z⟩
      · intro z
        have z':v.toNat=0:=z
        omega
      · intro _ kk hk
        exact ⟨(k1.ok kk hk).1,k2 kk hk,(k1.ok kk hk).2⟩
      · unfold Nd.size
        rw [hit]
        simp only []
        rw [← d2]
        exact hsz
theorem Tryz.sizeWant:(Tryz.prog.info? 32).map (·.size)=some 4:=by kernel_rfl
theorem Tryz.sizeReply:(Tryz.prog.info? 55).map (·.size)=some 4:=by kernel_rfl
theorem load_want {w:World} {b:Nat} {v0 v1 v2 v3:Value} (h:Cb w b [v0,v1,v2,v3]):(loadVar 32 ⟨b,0,none⟩).run Tryz.prog w=.ok (.agg #[v0,v1,v2,v3]) w :=
  run_loadVar_mid (P:=Tryz.prog) w b 0 32 [v0,v1,v2,v3] _ h.rg.range Tryz.underlying32 rfl Tryz.sizeWant
theorem load_reply {w:World} {b:Nat} {v0 v1 v2 v3:Value} (h:Cb w b [v0,v1,v2,v3]):(loadVar 55 ⟨b,0,none⟩).run Tryz.prog w=.ok (.agg #[v0,v1,v2,v3]) w :=
  run_loadVar_mid (P:=Tryz.prog) w b 0 55 [v0,v1,v2,v3] _ h.rg.range Tryz.underlying55 rfl Tryz.sizeReply
section
variable {ops:Array Oper} {rest:List Oper} {o:Oper} {a:Act} {w:World} {Q:Exit→Act→World→Prop}
theorem wpList_put_cb (hg:o.guard=none) (ty:TypeId) (x y:Operand) (hop:o.op=.store ty x y) (b:Nat) (hx:a.eval x=.pointer (some ⟨b,0,none⟩)) (cs ds:List Value) (hl:ds.length=cs.length) (hs:(Tryz.prog.info? ty).map (·.size)=some ds.length) (ho:ds.all Value.oneCell'=true) (hy:a.eval y=.agg ds.toArray) (hc:Cb w b cs)
    (h:∀ W,Hid (Cb W b ds∧Only (fun k=>k=b) w W)→wpList Tryz.prog ops Q rest (a.put o.dst undef) W):wpList Tryz.prog ops Q (o :: rest) a w :=
  wpList_store_mid hg ty x y hop b 0 ds.toArray hx hy (by have:=hc.rg.there; rw [← hl] at this; simpa using this) (by simpa using hs) (by simpa using ho) (h _ ⟨by
    have q:=Cb.sets (c1:=[]) (c2:=cs) (c3:=[]) (by simpa using hc) ds hl
    simpa using q,only_setCells _ _ _ _⟩)
end
def Pn.want (P:Pn):Value:=.agg #[.int .i64 P.wk,.string P.wkey,.int .i64 P.ws,.int .i64 P.wp]
theorem Want_any (w:World) (Z:Nat→Prop) (p:Nat) (P:Pn) (h:Pm w Z p P) :
    Calls Tryz.prog 10 #[.pointer (some ⟨p,0,none⟩)] w fun e w'=>e=.returned P.want∧Only (fun _=>False) w w':=by
  have h2:=h.more (onlyA w (.cells #[.int .i64 0,.string ⟨#[]⟩,.int .i64 0,.int .i64 0] 32))
  have c6:=h2.cb.c 6 _ rfl
  have c7:=h2.cb.c 7 _ rfl
  have c8:=h2.cb.c 8 _ rfl
  have c9:=h2.cb.c 9 _ rfl
  clear h h2
  unfold Pn.want
  go_enter Tryz.func10,Tryz.ntmps10
  go_wp2_with fail
  refine bodyPost_ret (results_cell1 rfl rfl (load_want (Cb.new w [.int .i64 P.wk,.string P.wkey,.int .i64 P.ws,.int .i64 P.wp] 32))) rfl ?_
  exact ⟨rfl,onlyA _ _⟩
def Rws (w:World) (ao:Option Addr) (L:List (ByteArray × ByteArray)):Prop:=0 < L.length→∃ g,ao=some ⟨g,0,none⟩∧g < w.heap.size∧∀ j (h:j < L.length),w.cell? ⟨g,j * 2,none⟩=some (.string L[j].1)∧w.cell? ⟨g,j * 2+1,none⟩=some (.string L[j].2)
theorem RowsAt.rws {w:World} {b cp:Nat} {ao:Option Addr} {L:List (ByteArray × ByteArray)} (h:RowsAt w b (.slice ao L.length cp) L):Rws w ao L:=fun h0=>by
  obtain ⟨g,e,_,h2,_⟩:=h.at_ h0
  refine ⟨g,e,h2,fun j hj=>?_⟩
  obtain ⟨g2,e2,_,_,_,hc⟩:=h.at_ hj
  rw [e] at e2
  obtain rfl:g=g2:=by injection e2 with e2; injection e2
  exact ⟨hc 0 _ (by decide) rfl,hc 1 _ (by decide) rfl⟩
theorem Rws.kept {S:Nat→Prop} {w w':World} {ao:Option Addr} {L:List (ByteArray × ByteArray)} (h:Rws w ao L) (ho:Only S w w') (hS:∀ g,ao=some ⟨g,0,none⟩→¬ S g):Rws w' ao L:=fun h0=>by
  obtain ⟨g,e,h2,hc⟩:=h h0
  exact ⟨g,e,Nat.lt_of_lt_of_le h2 ho.size,fun j hj=>⟨(ho.cell (p:=⟨g,j * 2,none⟩) h2 (hS g e)).trans (hc j hj).1,(ho.cell (p:=⟨g,j * 2+1,none⟩) h2 (hS g e)).trans (hc j hj).2⟩⟩
theorem Rws.more {w w':World} {ao:Option Addr} {L:List (ByteArray × ByteArray)} (h:Rws w ao L) (ho:Only (fun _=>False) w w'):Rws w' ao L:=h.kept ho (fun _ _ e=>e)
theorem Rws.nil (w:World) (ao:Option Addr):Rws w ao []:=fun h=>absurd h (by simp)
theorem RowsAt.src {w:World} {b cp:Nat} {ao:Option Addr} {L:List (ByteArray × ByteArray)} (h:RowsAt w b (.slice ao L.length cp) L):GSrc ERw w ao L.length L:=by
  refine ⟨rfl,?_⟩
  rcases h.head with ⟨e,e2,_⟩ | ⟨g,e,_,_,_,_,_,hc⟩
  · exact .inl ⟨e,by rw [e2]; rfl⟩
  · exact .inr ⟨_,e,fun j u hu=>by rw [add_at,Nat.zero_add]; exact hc j u hu⟩
theorem rows_empty (w:World):RowsAt (w.alloc (.cells #[] 80)) w.heap.size (.slice (some ⟨w.heap.size,0,none⟩) 0 0) [] :=
  ⟨by simp,.inr ⟨w.heap.size,0,#[],rfl,Nat.le_refl _,heap_alloc_new w _,Nat.le_refl _,Nat.zero_le _,by simp,by simp⟩⟩
theorem rows_clone {w:World} {ao:Option Addr} {cp:Nat} {L:List (ByteArray × ByteArray)} (h:RowsAt w 0 (.slice ao L.length cp) L) (hl:L.length≤1000) (tr:TypeId) (c:Nat) :
    ∃ a2 c2 w',(Builtin.append_ #[53,53] tr #[.slice (some ⟨w.heap.size,0,none⟩) 0 0,.slice ao L.length c]).run Tryz.prog (w.alloc (.cells #[] 80))=.ok (.slice a2 L.length c2) w'∧Rws w' a2 L∧(∀ g,a2=some ⟨g,0,none⟩→w.heap.size≤g)∧Only (fun _=>False) w w':=by
  obtain ⟨v',w',h1,h2,h3,_⟩:=grow_append (w:=w.alloc (.cells #[] 80)) (N:=L) (ao:=ao) (m:=L.length) Tryz.underlying53 Tryz.infoRow rfl (rows_empty w) (RowsAt.src (GRow.more h (onlyA _ _))) (by simp; omega) (by unfold maxLen; simp; omega) (by simp) tr c
  rw [List.nil_append] at h2
  obtain ⟨a2,c2,rfl⟩:=h2.form
  refine ⟨a2,c2,w',h1,RowsAt.rws (GRow.base h2 (Nat.zero_le _)),fun g e=>(h2.low g (by rw [e]; rfl)).1,?_⟩
  refine (onlyA w _).trans (Only.grown (S:=fun k=>k=w.heap.size) h3 (fun b hb=>by simp [Value.ownBlock] at hb; exact hb.symm)) (fun i hi e=>by omega)
def ClR (w w':World) (e:Ending) (f:Value→Value) (L:List (ByteArray × ByteArray)):Prop:=∃ a c,e=.returned (f (.slice a L.length c))∧Rws w' a L∧(∀ g,a=some ⟨g,0,none⟩→w.heap.size≤g)∧Only (fun _=>False) w w'
set_option maxHeartbeats 800000 in
theorem cloneR_any (w:World) (ao:Option Addr) (cp:Nat) (L:List (ByteArray × ByteArray)) (h:RowsAt w 0 (.slice ao L.length cp) L) (hl:L.length≤1000) :
    Calls Tryz.prog 32 #[.slice ao L.length cp] w fun e w'=>ClR w w' e (fun v=>v) L:=by
  obtain ⟨a2,c2,W,h1,h2,h4,h3⟩:=rows_clone h hl 53 cp
  have H2:=hide h2
  have H3:=hide h3
  have H4:=hide h4
  cases ao with
  | none=>
    have e:L=[]:=by
      rcases h.head with ⟨_,e,_⟩ | ⟨g,e,_⟩
      · exact e
      · cases e
    subst e
    clear h hl h1 h2 h3 h4 H2 H3 H4
    have he:∀ w',(binOp .eql 53 (.slice none 0 cp) (.slice none 0 0)).run Tryz.prog w'=.ok (.bool true) w':=fun _=>rfl
    go_enter Tryz.func32,Tryz.ntmps32
    go_wp2_with fail
    refine bodyPost_ret (a:=_) (results_tmp rfl _ _ _) ?_ ?_
    · rfl
    exact ⟨none,0,rfl,Rws.nil _ _,(fun _ q=>by cases q),Only.refl _ _⟩
  | some a=>
    clear h hl h2 h3 h4
    obtain ⟨n,hn⟩:=exq (L.length)
    rw [hn] at h1
    have HN:=hide hn
    rw [hn]
    clear hn
    have he:∀ w',(binOp .eql 53 (.slice (some a) n cp) (.slice none 0 0)).run Tryz.prog w'=.ok (.bool false) w':=fun _=>rfl
    go_enter Tryz.func32,Tryz.ntmps32
    have HR:=hide h1
    clear h1
    go_wp2_with (at_builtin; go_must (refine Lib.wpList_append_run _ rfl _ _ _ _ rfl _ _ rfl rfl _ _ HR.out ?_))
    refine bodyPost_ret (results_tmp rfl _ _ _) rfl ?_
    exact ⟨a2,c2,by rw [HN.out]; rfl,H2.out,H4.out,H3.out⟩
def Pn.rep (P:Pn) (v:Value):Value:=.agg #[.int .i64 P.err,.bool P.found,.string P.val,v]
set_option maxHeartbeats 800000 in
theorem Reply_over (w:World) (Z:Nat→Prop) (p:Nat) (P:Pn) (h:Pm w Z p P) (hk:P.wk=4) (hl:P.rows.length≤1000) :
    Calls Tryz.prog 13 #[.pointer (some ⟨p,0,none⟩)] w fun e w'=>ClR w w' e P.rep P.rows:=by
  have HH:=hide (h.more (onlyA w (.cells #[.int .i64 0,.bool false,.string ⟨#[]⟩,.slice none 0 0] 55)))
  have HO:=hide (onlyA w (.cells #[.int .i64 0,.bool false,.string ⟨#[]⟩,.slice none 0 0] 55))
  have HB:=hide (Cb.new w [.int .i64 0,.bool false,.string ⟨#[]⟩,.slice none 0 0] 55)
  have HW:Hid (∀ W,Pm W Z p P→Calls Tryz.prog 30 #[.pointer (some ⟨p,0,none⟩),.int .i64 4] W fun e w'=>e=.returned (.bool true)∧w'=W):=fun W hW=>by
    have:=wants_any W Z p P hW 4
    rw [hk] at this
    exact this
  have HL:=hide hl
  clear h hk hl
  unfold Pn.rep
  go_enter Tryz.func13,Tryz.ntmps13
  go_upto_region 1 with fail
  obtain ⟨W0,hW0⟩:=exq (w.alloc (.cells #[.int .i64 0,.bool false,.string ⟨#[]⟩,.slice none 0 0] 55))
  rw [hW0] at HH HO ⊢
  rw [show w.alloc (.cells [Value.int .i64 0,.bool false,.string ⟨#[]⟩,.slice none 0 0].toArray 55)=W0 from hW0] at HB
  clear hW0
  go_wp2_with fail
  refine (HW.out _ HH.out).mono ?_
  rintro e w1 ⟨rfl,h1⟩
  obtain rfl:=h1.symm
  clear HW
  have r24:=HH.out.cb.c 24 _ rfl
  have r25:=HH.out.cb.c 25 _ rfl
  have r26:=HH.out.cb.c 26 _ rfl
  have r27:=HH.out.cb.c 27 _ rfl
  go_upto_region 4 with fail
  obtain ⟨W1,hW1⟩:=exq (W0.alloc (.cells #[.int .i64 P.err,.bool P.found,.string P.val,.slice P.ra P.rows.length P.rc] 55))
  have HB1:Hid (Cb W1 W0.heap.size [.int .i64 P.err,.bool P.found,.string P.val,.slice P.ra P.rows.length P.rc]):=by
    rw [← hW1]; exact Cb.new W0 [.int .i64 P.err,.bool P.found,.string P.val,.slice P.ra P.rows.length P.rc] 55
  have HO1:Hid (Only (fun _=>False) W0 W1):=by rw [← hW1]; exact onlyA _ _
  rw [hW1]
  clear hW1
  have HC1:=hide (HB.out.more HO1.out)
  have HR:=hide (HH.out.more HO1.out).rows
  obtain ⟨b,hb⟩:=exq (W0.heap.size)
  rw [hb] at HB1 ⊢
  have HSZ:Hid (w.heap.size < b):=by rw [← hb]; exact HB.out.lt
  have HBL:Hid (b < W1.heap.size):=HB1.out.lt
  clear hb r24 r25 r26 r27 HH
  have c3:=HB1.out.c 3 _ rfl
  have f3:=HB1.out.f 3
  go_wp2_with fail
  refine (cloneR_any W1 P.ra P.rc P.rows HR.out HL.out).mono ?_
  rintro e W2 ⟨a,c,rfl,hr,hn,ho⟩
  have HNE:=hide hn
  clear hn
  have HR2:=hide hr
  have HO2:=hide ho
  have HB2:=hide (HB1.out.more ho)
  have HC2:=hide (HC1.out.more ho)
  clear hr ho c3 f3 HB1 HC1
  have c0:=HB2.out.c 0 _ rfl
  have c1:=HB2.out.c 1 _ rfl
  have c2:=HB2.out.c 2 _ rfl
  have c3:=HB2.out.c 3 _ rfl
  have f3:=HB2.out.f 3
  have HC3:=hide (HC2.out.kept (Only.put W2 b 3 (.slice a P.rows.length c)) (fun q=>by have:=HSZ.out; omega))
  go_wp2_with (refine wpList_put_cb rfl 55 (.tmp 2) (.tmp 16) rfl w.heap.size rfl [.int .i64 0,.bool false,.string ⟨#[]⟩,.slice none 0 0] [.int .i64 P.err,.bool P.found,.string P.val,.slice a P.rows.length c] rfl Tryz.sizeReply rfl rfl HC3.out ?_; intro W9 HW9; go_frame)
  refine bodyPost_ret (results_cell1 rfl rfl (load_reply HW9.out.1)) rfl ?_
  have HO3:=(o2 (o2 HO.out HO1.out) HO2.out)
  have HO4:Only (fun k=>k=b) W2 (W2.setCell ⟨b,3,none⟩ (.slice a P.rows.length c)):=Only.put _ _ _ _
  have hsz:=HSZ.out
  have hb1:=HBL.out
  refine ⟨a,c,rfl,(HR2.out.kept HO4 (fun g e q=>by have:=HNE.out g e; omega)).kept HW9.out.2 (fun g e q=>by have:=HNE.out g e; omega),fun g e=>by have:=HNE.out g e; omega,(HO3.trans HO4 (fun i hi e=>by omega)).trans HW9.out.2 (fun i hi e=>by omega)⟩
end Go.Proofs.YtajjakljheafjaaGreat
namespace Go.Proofs.YtajjakljheafjaaGreat
open Go.RowKit
structure Nz (w:World) (B:Nat) (ao:Option Addr) (l:List Int):Prop where
  at_:0 < l.length→∃ o,ao=some ⟨B,o,none⟩∧∀ j (h:j < l.length),w.cell? ⟨B,o+j,none⟩=some (.int .i64 l[j])
  wf:∀ x ∈ l,I64 x
  lt:0 < l.length→B < w.heap.size
  len:l.length < 9223372036854775808
theorem Nz.nil (w:World) (B:Nat) (ao:Option Addr):Nz w B ao []:=⟨fun h=>absurd h (by simp),fun _ h=>by (cases h),fun h=>absurd h (by simp),by simp⟩
theorem Nz.kept {S:Nat→Prop} {w w':World} {B:Nat} {ao:Option Addr} {l:List Int} (h:Nz w B ao l) (ho:Only S w w') (hS:0 < l.length→¬ S B):Nz w' B ao l :=
  ⟨fun h0=>by
    obtain ⟨o,e,hc⟩:=h.at_ h0
    exact ⟨o,e,fun j hj=>(ho.cell (p:=⟨B,o+j,none⟩) (h.lt h0) (hS h0)).trans (hc j hj)⟩,h.wf,fun h0=>Nat.lt_of_lt_of_le (h.lt h0) ho.size,h.len⟩
theorem Nz.more {w w':World} {B:Nat} {ao:Option Addr} {l:List Int} (h:Nz w B ao l) (ho:Only (fun _=>False) w w'):Nz w' B ao l:=h.kept ho (fun _ h=>h)
theorem Nz.one (w:World) (a:Int) (ha:I64 a):Nz (w.alloc (.cells #[.int .i64 a] 3)) w.heap.size (some ⟨w.heap.size,0,none⟩) [a] :=
  ⟨fun _=>⟨0,rfl,fun j hj=>by
    match j,hj with
    | 0,_=>simp⟩,fun x hx=>by simp at hx; subst hx; exact ha,fun _=>by simp,by simp⟩
theorem snot_mem_take {l:List Int} {x:Int} {j:Nat} (h:∀ k (hk:k < l.length),k < j→l[k]≠x) (hj:l.length≤j):x ∉ l:=by
  intro hm
  obtain ⟨k,hk,e⟩:=List.getElem_of_mem hm
  exact h k hk (by omega) e
set_option maxHeartbeats 800000 in
theorem nin_any (w:World) (B cp:Nat) (ao:Option Addr) (l:List Int) (x:Int) (h:Nz w B ao l) :
    Calls Tryz.prog 91 #[.slice ao l.length cp,.int .i64 x] w fun e w'=>e=.returned (.bool (decide (x ∈ l)))∧w'=w:=by
  have hlen:=h.len
  have HS:=hide h
  clear h
  go_enter Tryz.func91,Tryz.ntmps91
  go_wp2_with fail
  go_loop [5] (fun y=>∃ j:Nat,j≤l.length∧y=.int .i64 (j:Int)∧Hid (∀ k (hk:k < l.length),k < j→l[k]≠x)) (fun y=>l.length - (intOf y).toNat)
  case atStart=>exact ⟨0,by omega,rfl,(fun k _ hk=>by omega)⟩
  case round=>
    obtain ⟨j,hj,rfl,HQ⟩:=hrel
    by_cases hlt:j < l.length
    · obtain ⟨o,e1,c1⟩:=HS.out.at_ (by omega)
      have k1:=c1 j hlt
      obtain ⟨z,hz⟩:=exq (l[j])
      have HZ:=hide hz
      rw [hz] at k1
      clear c1 hz
      subst e1
      by_cases he:z=x
      · have hm:x ∈ l:=by rw [← he,← HZ.out]; exact List.getElem_mem hlt
        have HM:=hide hm
        clear hm
        subst he
        go_wp2_with fail
        go_ret
        exact ⟨ret_bool (decide_eq_true HM.out).symm,rfl⟩
      · have hb:(z == x)=false:=by simp [he]
        go_wp2_with fail
        go_round
        case rel=>
          refine ⟨j+1,by omega,by go_num,?_⟩
          intro k hk hkj
          by_cases ek:k=j
          · subst ek; rw [HZ.out]; exact he
          · exact HQ.out k hk (by omega)
        case measure=>simp [intOf]; omega
    · have HM:=hide (snot_mem_take HQ.out (by omega))
      go_wp2_with fail
      go_ret
      exact ⟨ret_bool (decide_eq_false HM.out).symm,rfl⟩
structure RJs (e:Ending) (P:Prop):Prop where
  ex:∃ c:Int,e=.returned (.int .i64 c)∧(0≤c ↔ P)
set_option maxHeartbeats 800000 in
theorem sindex_any (w:World) (B cp:Nat) (ao:Option Addr) (l:List Int) (x:Int) (h:Nz w B ao l) :
    Calls Tryz.prog 195 #[.slice ao l.length cp,.int .i64 x] w fun e w'=>RJs e (x ∈ l)∧w'=w:=by
  have hlen:=h.len
  have HS:=hide h
  clear h
  go_enter Tryz.func195,Tryz.ntmps195
  go_wp2_with fail
  go_loop [8] (fun y=>∃ j:Nat,j≤l.length∧y=.int .i64 (j:Int)∧Hid (∀ k (hk:k < l.length),k < j→l[k]≠x)) (fun y=>l.length - (intOf y).toNat)
  case atStart=>exact ⟨0,by omega,rfl,(fun k _ hk=>by omega)⟩
  case round=>
    obtain ⟨j,hj,rfl,HQ⟩:=hrel
    by_cases hlt:j < l.length
    · obtain ⟨o,e1,c1⟩:=HS.out.at_ (by omega)
      have k1:=c1 j hlt
      obtain ⟨z,hz⟩:=exq (l[j])
      have HZ:=hide hz
      rw [hz] at k1
      clear c1 hz
      subst e1
      by_cases he:z=x
      · have hm:x ∈ l:=by rw [← he,← HZ.out]; exact List.getElem_mem hlt
        have HM:=hide hm
        clear hm
        subst he
        go_wp2_with fail
        go_ret
        exact ⟨⟨_,rfl,fun _=>HM.out,fun _=>by omega⟩,rfl⟩
      · have hb:(x == z)=false:=by simp [Ne.symm he]
        go_wp2_with fail
        go_round
        case rel=>
          refine ⟨j+1,by omega,by go_num,?_⟩
          intro k hk hkj
          by_cases ek:k=j
          · subst ek; rw [HZ.out]; exact he
          · exact HQ.out k hk (by omega)
        case measure=>simp [intOf]; omega
    · have HM:=hide (snot_mem_take HQ.out (by omega))
      go_wp2_with fail
      go_ret
      exact ⟨⟨_,rfl,fun h=>absurd h (by decide),fun h=>absurd h HM.out⟩,rfl⟩
set_option maxHeartbeats 800000 in
theorem scontains_any (w:World) (B cp:Nat) (ao:Option Addr) (l:List Int) (x:Int) (h:Nz w B ao l) :
    Calls Tryz.prog 184 #[.slice ao l.length cp,.int .i64 x] w fun e w'=>e=.returned (.bool (decide (x ∈ l)))∧w'=w:=by
  have HC:=hide (sindex_any w B cp ao l x h)
  clear h
  go_enter Tryz.func184,Tryz.ntmps184
  go_wp2_with fail
  refine HC.out.mono ?_
  rintro e w1 ⟨⟨c,rfl,hc⟩,rfl⟩
  have HP:=hide hc
  clear hc HC
  by_cases h0:0≤c
  · have g0:decide (0≤c)=true:=decide_eq_true h0
    go_wp2_with fail
    go_ret
    exact ⟨ret_bool (by rw [decide_eq_true (HP.out.1 h0)]),rfl⟩
  · have g0:decide (0≤c)=false:=decide_eq_false h0
    go_wp2_with fail
    go_ret
    exact ⟨ret_bool (by rw [decide_eq_false (fun h=>by have:=HP.out.2 h; omega)]),rfl⟩
def Pn.fin (P:Pn):Pn:=Pn.over P.err P.found P.val P.ra P.rows P.rc
theorem fin_any (w:World) (Z:Nat→Prop) (p:Nat) (P:Pn) (h:Pm w Z p P) :
    Calls Tryz.prog 33 #[.pointer (some ⟨p,0,none⟩),.agg #[.int .i64 P.err,.bool P.found,.string P.val,.slice P.ra P.rows.length P.rc]] w fun e w'=>e=.returned (.tuple #[])∧Pm w' Z p P.fin∧Only (fun k=>k=p) w w' :=
  end_any w Z p P h P.err P.found P.val P.ra P.rows P.rc h.rows h.rz
def Pn.tu (P:Pn):Tu:=⟨P.own,0,false,P.key,P.value⟩
theorem Tryz.sizeTup:(Tryz.prog.info? 78).map (·.size)=some 5:=by kernel_rfl
theorem load_tup {w:World} {b:Nat} {v0 v1 v2 v3 v4:Value} (h:Cb w b [v0,v1,v2,v3,v4]):(loadVar 78 ⟨b,0,none⟩).run Tryz.prog w=.ok (.agg #[v0,v1,v2,v3,v4]) w :=
  run_loadVar_mid (P:=Tryz.prog) w b 0 78 [v0,v1,v2,v3,v4] _ h.rg.range Tryz.underlying78 rfl Tryz.sizeTup
set_option maxHeartbeats 800000 in
theorem version_p (w:World) (Z:Nat→Prop) (p:Nat) (P:Pn) (h:Pm w Z p P) :
    Calls Tryz.prog 59 #[.pointer (some ⟨p,0,none⟩)] w fun e w'=>e=.returned P.tu.agg∧Only (fun _=>False) w w':=by
  have HO:=hide (onlyA w (.cells #[.int .i64 0,.int .i64 0,.bool false,.string ⟨#[]⟩,.string ⟨#[]⟩] 78))
  have HB:=hide (Cb.new w [.int .i64 0,.int .i64 0,.bool false,.string ⟨#[]⟩,.string ⟨#[]⟩] 78)
  have HH:=hide (h.more HO.out)
  unfold Pn.tu Tu.agg
  clear h
  go_enter Tryz.func59,Tryz.ntmps59
  go_upto_region 1 with fail
  obtain ⟨W0,hW0⟩:=exq (w.alloc (.cells #[.int .i64 0,.int .i64 0,.bool false,.string ⟨#[]⟩,.string ⟨#[]⟩] 78))
  rw [hW0] at HO HH ⊢
  rw [show w.alloc (.cells [Value.int .i64 0,.int .i64 0,.bool false,.string ⟨#[]⟩,.string ⟨#[]⟩].toArray 78)=W0 from hW0] at HB
  clear hW0
  have c1:=HH.out.cb.c 1 _ rfl
  have c3:=HH.out.cb.c 3 _ rfl
  have c5:=HH.out.cb.c 5 _ rfl
  obtain ⟨b,hb⟩:=exq (w.heap.size)
  rw [hb] at HB ⊢
  have HW:Hid (w.heap.size=b):=hb
  clear hb HH
  have d0:=HB.out.c 0 _ rfl
  have d1:=HB.out.c 1 _ rfl
  have d2:=HB.out.c 2 _ rfl
  have d3:=HB.out.c 3 _ rfl
  have d4:=HB.out.c 4 _ rfl
  have f0:=HB.out.f 0
  have f1:=HB.out.f 1
  have f2:=HB.out.f 2
  have f3:=HB.out.f 3
  have f4:=HB.out.f 4
  go_region
  go_wp2_with fail
  have HP:=(((((Only.put W0 b 0 (.int .i64 P.own)).puts 1 (.int .i64 0)).puts 2 (.bool false)).puts 3 (.string P.key)).puts 4 (.string P.value))
  refine bodyPost_ret (results_cell1 rfl rfl (load_tup ((((((HB.out.set 0 (.int .i64 P.own)).set 1 (.int .i64 0)).set 2 (.bool false)).set 3 (.string P.key)).set 4 (.string P.value)).more (Only.drew _ _)))) rfl ?_
  exact ⟨rfl,o2 (HO.out.trans HP (fun i hi e=>by have:=HW.out; omega)) (Only.drew _ _)⟩
def Pn.wsp (P:Pn):Pn:={ P with wk:=2,wkey:=⟨#[]⟩,ws:=((str P.tu.out).size:Int),wp:=0 }
set_option maxHeartbeats 800000 in
theorem wantSpace_any (w:World) (Z:Nat→Prop) (p:Nat) (P:Pn) (h:Pm w Z p P) (ho:I64 P.own) :
    Calls Tryz.prog 62 #[.pointer (some ⟨p,0,none⟩)] w fun e w'=>e=.returned (.tuple #[])∧Pm w' Z p P.wsp∧Only (fun k=>k=p) w w':=by
  have HH:=hide h
  have HV:=hide (version_p w Z p P h)
  have HE:Hid (∀ W,Calls Tryz.prog 45 #[P.tu.agg] W fun e w'=>e=.returned (.tuple #[.string (str P.tu.out),.int .i64 P.tu.err])∧Only (fun _=>False) W w'):=fun W=>uencode_any P.tu W ho (by unfold Pn.tu; simp only; omega)
  unfold Pn.wsp
  obtain ⟨S,hS⟩:=exq (str P.tu.out)
  obtain ⟨T,hT⟩:=exq (P.tu.agg)
  obtain ⟨X,hX⟩:=exq (P.tu.err)
  rw [hS] at HE ⊢
  rw [hT,hX] at HE
  rw [hT] at HV
  clear h ho hS hT hX
  go_enter Tryz.func62,Tryz.ntmps62
  go_wp2_with fail
  refine HV.out.mono ?_
  rintro e w1 ⟨rfl,ho1⟩
  have HO1:=hide ho1
  have HH1:=hide (HH.out.more ho1)
  clear ho1 HV HH
  go_wp2_with fail
  refine (HE.out _).mono ?_
  rintro e w2 ⟨rfl,ho1⟩
  have HO2:=hide (o2 HO1.out ho1)
  have HH2:=hide (HH1.out.more ho1)
  clear ho1 HE HH1 HO1
  have c6:=HH2.out.cb.c 6 _ rfl
  have c7:=HH2.out.cb.c 7 _ rfl
  have c8:=HH2.out.cb.c 8 _ rfl
  have c9:=HH2.out.cb.c 9 _ rfl
  have f6:=HH2.out.cb.f 6
  have f7:=HH2.out.cb.f 7
  have f8:=HH2.out.cb.f 8
  have f9:=HH2.out.cb.f 9
  go_wp2_with fail
  refine bodyPost_end (results_none rfl _ _ _) rfl ?_
  have HP:=((((Only.put w2 p 6 (.int .i64 2)).puts 7 (.string ⟨#[]⟩)).puts 8 (.int .i64 (S.size:Int))).puts 9 (.int .i64 0))
  exact ⟨rfl,HH2.out.mod HP ((((HH2.out.cb.set 6 _).set 7 _).set 8 _).set 9 _) ⟨rfl,rfl,rfl⟩ ⟨rfl,rfl⟩,Op.none HO2.out HP⟩
def Pn.gon (P:Pn):Pn:=if P.call=4 then P.fin else P.wsp
theorem goOn_any (w:World) (Z:Nat→Prop) (p:Nat) (P:Pn) (h:Pm w Z p P) (ho:I64 P.own) :
    Calls Tryz.prog 165 #[.pointer (some ⟨p,0,none⟩)] w fun e w'=>e=.returned (.tuple #[])∧Pm w' Z p P.gon∧Only (fun k=>k=p) w w':=by
  have HF:=hide (fin_any w Z p P h)
  have HS:=hide (wantSpace_any w Z p P h ho)
  have c0:=h.cb.c 0 _ rfl
  have c24:=h.cb.c 24 _ rfl
  have c25:=h.cb.c 25 _ rfl
  have c26:=h.cb.c 26 _ rfl
  have c27:=h.cb.c 27 _ rfl
  unfold Pn.gon
  clear h ho
  by_cases hc:P.call=4
  · have hb:(P.call == 4)=true:=by simp [hc]
    rw [if_pos hc]
    clear hc
    go_enter Tryz.func165,Tryz.ntmps165
    go_wp2_with fail
    refine HF.out.mono ?_
    rintro x w1 ⟨rfl,hp,ho⟩
    have HP:=hide hp
    have HO:=hide ho
    clear hp ho c0 c24 c25 c26 c27
    go_wp2_with fail
    refine bodyPost_ret (results_none rfl _ _ _) rfl ?_
    exact ⟨rfl,HP.out,HO.out⟩
  · have hb:(P.call == 4)=false:=by simp [hc]
    rw [if_neg hc]
    clear hc
    go_enter Tryz.func165,Tryz.ntmps165
    go_wp2_with fail
    refine HS.out.mono ?_
    rintro x w1 ⟨rfl,hp,ho⟩
    have HP:=hide hp
    have HO:=hide ho
    clear hp ho c0 c24 c25 c26 c27
    go_wp2_with fail
    refine bodyPost_end (results_none rfl _ _ _) rfl ?_
    exact ⟨rfl,HP.out,HO.out⟩
def Pn.lkd (P:Pn):Pn:=if P.chg=true then (if P.found=true then P.see P.old.page 164 else P.gon) else P.fin
theorem looked_any (w:World) (Z:Nat→Prop) (p:Nat) (P:Pn) (h:Pm w Z p P) (ho:I64 P.own) :
    Calls Tryz.prog 136 #[.pointer (some ⟨p,0,none⟩)] w fun e w'=>e=.returned (.tuple #[])∧Pm w' Z p P.lkd∧Only (fun k=>k=p) w w':=by
  have hmf:∀ (fn:Fn) (first cap:Array Value) (w:World),(Instr.makeFunc fn first cap).run Tryz.prog w=.ok (.func fn first cap) w:=fun _ _ _ _=>rfl
  have HC:=hide (changes_any w Z p P h)
  have HF:=hide (fin_any w Z p P h)
  have HG:=hide (goOn_any w Z p P h ho)
  have HM:=hide (see_any w Z p P h P.old.page 164)
  have c21:=h.cb.c 21 _ rfl
  have c24:=h.cb.c 24 _ rfl
  have c25:=h.cb.c 25 _ rfl
  have c26:=h.cb.c 26 _ rfl
  have c27:=h.cb.c 27 _ rfl
  unfold Pn.lkd
  clear h ho
  cases hc:P.chg
  · rw [hc] at HC
    rw [if_neg (by decide)]
    clear hc
    go_enter Tryz.func136,Tryz.ntmps136
    go_wp2_with fail
    refine HC.out.mono ?_
    rintro x w1 ⟨rfl,rfl⟩
    go_wp2_with fail
    refine HF.out.mono ?_
    rintro x w1 ⟨rfl,hp,ho⟩
    have HP:=hide hp
    have HO:=hide ho
    clear hp ho c21 c24 c25 c26 c27
    go_wp2_with fail
    refine bodyPost_end (results_none rfl _ _ _) rfl ?_
    exact ⟨rfl,HP.out,HO.out⟩
  · rw [hc] at HC
    rw [if_pos rfl]
    clear hc
    cases hf:P.found
    · rw [hf] at c25
      rw [if_neg (by decide)]
      clear hf
      go_enter Tryz.func136,Tryz.ntmps136
      go_wp2_with fail
      refine HC.out.mono ?_
      rintro x w1 ⟨rfl,rfl⟩
      go_wp2_with fail
      refine HG.out.mono ?_
      rintro x w1 ⟨rfl,hp,ho⟩
      have HP:=hide hp
      have HO:=hide ho
      clear hp ho c21 c24 c25 c26 c27
      go_wp2_with fail
      refine bodyPost_end (results_none rfl _ _ _) rfl ?_
      exact ⟨rfl,HP.out,HO.out⟩
    · rw [hf] at c25
      rw [if_pos rfl]
      clear hf
      go_enter Tryz.func136,Tryz.ntmps136
      go_wp2_with fail
      refine HC.out.mono ?_
      rintro x w1 ⟨rfl,rfl⟩
      go_wp2_with fail
      refine HM.out.mono ?_
      rintro x w1 ⟨rfl,hp,ho⟩
      have HP:=hide hp
      have HO:=hide ho
      clear hp ho c21 c24 c25 c26 c27
      go_wp2_with fail
      refine bodyPost_end (results_none rfl _ _ _) rfl ?_
      exact ⟨rfl,HP.out,HO.out⟩
def Pn.lko (P:Pn):Pn:=match P.hits with | e :: _=>P.see e.page 135 | []=>if P.more=true then P.see P.right 51 else P.lkd
set_option maxHeartbeats 800000 in
theorem lookOn_any (w:World) (Z:Nat→Prop) (p:Nat) (P:Pn) (h:Pm w Z p P) (ho:I64 P.own) (hl:P.hits.length≤1000000) :
    Calls Tryz.prog 95 #[.pointer (some ⟨p,0,none⟩)] w fun e w'=>e=.returned (.tuple #[])∧Pm w' Z p P.lko∧Only (fun k=>k=p) w w':=by
  have hmf:∀ (fn:Fn) (first cap:Array Value) (w:World),(Instr.makeFunc fn first cap).run Tryz.prog w=.ok (.func fn first cap) w:=fun _ _ _ _=>rfl
  have c17:=h.cb.c 17 _ rfl
  have c18:=h.cb.c 18 _ rfl
  have c19:=h.cb.c 19 _ rfl
  have HL:=hide (looked_any w Z p P h ho)
  unfold Pn.lko
  cases hh:P.hits with
  | nil=>
    rw [hh] at c17
    have HT:=hide (see_any w Z p P h P.right 51)
    simp only []
    clear h ho hh
    cases hm:P.more
    · rw [hm] at c18
      rw [if_neg (by decide)]
      clear hm
      go_enter Tryz.func95,Tryz.ntmps95
      go_wp2_with fail
      refine HL.out.mono ?_
      rintro x w1 ⟨rfl,hp,ho⟩
      have HP:=hide hp
      have HO:=hide ho
      clear hp ho c17 c18 c19
      go_wp2_with fail
      refine bodyPost_end (results_none rfl _ _ _) rfl ?_
      exact ⟨rfl,HP.out,HO.out⟩
    · rw [hm] at c18
      rw [if_pos rfl]
      clear hm
      go_enter Tryz.func95,Tryz.ntmps95
      go_wp2_with fail
      refine HT.out.mono ?_
      rintro x w1 ⟨rfl,hp,ho⟩
      have HP:=hide hp
      have HO:=hide ho
      clear hp ho c17 c18 c19
      go_wp2_with fail
      refine bodyPost_end (results_none rfl _ _ _) rfl ?_
      exact ⟨rfl,HP.out,HO.out⟩
  | cons e es=>
    have HT:=hide (see_any w Z p P h e.page 135)
    obtain ⟨B,hB,_⟩:=h.hits
    rw [hh] at hB
    obtain ⟨o,ho1,ho2⟩:=hB.at_ (by simp)
    have q:=ho2 0 (by simp)
    obtain ⟨q0,q1,q2⟩:=q
    have hn:¬ P.hits.length < 1:=by rw [hh]; simp
    rw [ho1] at c17
    simp only []
    obtain ⟨n,hn2⟩:=exq (P.hits.length)
    rw [hn2] at c17 hl hn
    clear h ho hh hB ho1 ho2 hn2
    go_enter Tryz.func95,Tryz.ntmps95
    go_wp2_with fail
    refine HT.out.mono ?_
    rintro x w1 ⟨rfl,hp,ho⟩
    have HP:=hide hp
    have HO:=hide ho
    clear hp ho c17 c18 c19 q0 q1 q2
    go_wp2_with fail
    refine bodyPost_end (results_none rfl _ _ _) rfl ?_
    exact ⟨rfl,HP.out,HO.out⟩
structure Vw where
  m:Int
  next:Int
  act:List Int
  own:Int
  run:List Int
  pg:Pg
structure Tp where
  xmin:Int
  xmax:Int
  fz:Bool
  key:ByteArray
  val:ByteArray
noncomputable def vsi (V:Vw) (x:Int):Int:=if x ∈ V.run then 1 else (gst V.m V.pg x:Int)
theorem vsi_bd (V:Vw) (x:Int):0≤vsi V x∧vsi V x < 4:=by
  unfold vsi gst
  split
  · omega
  · split
    · have:=stAt_lt (bl (it1 V.pg)) (x - 1).toNat
      omega
    · omega
def vown (V:Vw) (x:Int):Bool:=V.own != 0 && x == V.own
def vdone (V:Vw) (x:Int):Bool:=xbef V.m x V.next && !decide (x ∈ V.act)
noncomputable def vcom (V:Vw) (x:Int):Bool:=decide (vsi V x=2)
noncomputable def vsees (V:Vw) (x:Int):Bool:=vown V x || (vcom V x && vdone V x)
noncomputable def vnews (V:Vw) (x:Int):Bool:=vcom V x && !vsees V x
noncomputable def vbeg (V:Vw) (T:Tp):Bool:=T.fz || vsees V T.xmin
noncomputable def vend (V:Vw) (T:Tp):Bool:=T.xmax != 0 && vsees V T.xmax
noncomputable def vvis (V:Vw) (T:Tp):Bool:=vbeg V T && !vend V T
noncomputable def vnewer (V:Vw) (T:Tp):Bool:=(!T.fz && vnews V T.xmin) || (T.xmax != 0 && vnews V T.xmax)
structure Lo where
  bA:Nat
  aA:Option Addr
  cA:Nat
  bR:Nat
  aR:Option Addr
  cR:Nat
  bP:Nat
  aP:Option Addr
  cP:Nat
structure Sn (W:World) (V:Vw) (q:Lo):Prop where
  act:Nz W q.bA q.aA V.act
  run:Nz W q.bR q.aR V.run
  pg:Strs W q.bP q.aP V.pg.items
  fit:Fit q.aP V.pg.items.length q.cP
  m:I64 V.m
  next:I64 V.next
  own:I64 V.own
theorem Sn.more {W W':World} {V:Vw} {q:Lo} (h:Sn W V q) (ho:Only (fun _=>False) W W'):Sn W' V q:=⟨h.act.more ho,h.run.more ho,h.pg.more ho,h.fit,h.m,h.next,h.own⟩
structure VB (w:World) (b:Nat) (v0 v1 v2 v3 v4 v5 v6 v7 v8 v9 v10:Value):Prop where
  c0:w.cell? ⟨b,0,none⟩=some v0
  c1:w.cell? ⟨b,1,none⟩=some v1
  c2:w.cell? ⟨b,2,none⟩=some v2
  c3:w.cell? ⟨b,3,none⟩=some v3
  c4:w.cell? ⟨b,4,none⟩=some v4
  c5:w.cell? ⟨b,5,none⟩=some v5
  c6:w.cell? ⟨b,6,none⟩=some v6
  c7:w.cell? ⟨b,7,none⟩=some v7
  c8:w.cell? ⟨b,8,none⟩=some v8
  c9:w.cell? ⟨b,9,none⟩=some v9
  c10:w.cell? ⟨b,10,none⟩=some v10
  f0:w.frozen? ⟨b,0,none⟩=false
  f1:w.frozen? ⟨b,1,none⟩=false
  f2:w.frozen? ⟨b,2,none⟩=false
  f3:w.frozen? ⟨b,3,none⟩=false
  f4:w.frozen? ⟨b,4,none⟩=false
  f5:w.frozen? ⟨b,5,none⟩=false
  f6:w.frozen? ⟨b,6,none⟩=false
  f7:w.frozen? ⟨b,7,none⟩=false
  f8:w.frozen? ⟨b,8,none⟩=false
  f9:w.frozen? ⟨b,9,none⟩=false
  f10:w.frozen? ⟨b,10,none⟩=false
  lt:b < w.heap.size
theorem VB.kept {S:Nat→Prop} {w w':World} {b:Nat} {v0 v1 v2 v3 v4 v5 v6 v7 v8 v9 v10:Value} (h:VB w b v0 v1 v2 v3 v4 v5 v6 v7 v8 v9 v10) (ho:Only S w w') (hS:¬ S b):VB w' b v0 v1 v2 v3 v4 v5 v6 v7 v8 v9 v10 :=
  ⟨(ho.cell (p:=⟨b,0,none⟩) h.lt hS).trans h.c0,(ho.cell (p:=⟨b,1,none⟩) h.lt hS).trans h.c1,(ho.cell (p:=⟨b,2,none⟩) h.lt hS).trans h.c2,(ho.cell (p:=⟨b,3,none⟩) h.lt hS).trans h.c3,(ho.cell (p:=⟨b,4,none⟩) h.lt hS).trans h.c4,(ho.cell (p:=⟨b,5,none⟩) h.lt hS).trans h.c5,(ho.cell (p:=⟨b,6,none⟩) h.lt hS).trans h.c6,(ho.cell (p:=⟨b,7,none⟩) h.lt hS).trans h.c7,(ho.cell (p:=⟨b,8,none⟩) h.lt hS).trans h.c8,(ho.cell (p:=⟨b,9,none⟩) h.lt hS).trans h.c9,(ho.cell (p:=⟨b,10,none⟩) h.lt hS).trans h.c10,
   (ho.frozen (p:=⟨b,0,none⟩) h.lt hS).trans h.f0,(ho.frozen (p:=⟨b,1,none⟩) h.lt hS).trans h.f1,(ho.frozen (p:=⟨b,2,none⟩) h.lt hS).trans h.f2,(ho.frozen (p:=⟨b,3,none⟩) h.lt hS).trans h.f3,(ho.frozen (p:=⟨b,4,none⟩) h.lt hS).trans h.f4,(ho.frozen (p:=⟨b,5,none⟩) h.lt hS).trans h.f5,(ho.frozen (p:=⟨b,6,none⟩) h.lt hS).trans h.f6,(ho.frozen (p:=⟨b,7,none⟩) h.lt hS).trans h.f7,(ho.frozen (p:=⟨b,8,none⟩) h.lt hS).trans h.f8,(ho.frozen (p:=⟨b,9,none⟩) h.lt hS).trans h.f9,(ho.frozen (p:=⟨b,10,none⟩) h.lt hS).trans h.f10,Nat.lt_of_lt_of_le h.lt ho.size⟩
theorem VB.more {w w':World} {b:Nat} {v0 v1 v2 v3 v4 v5 v6 v7 v8 v9 v10:Value} (h:VB w b v0 v1 v2 v3 v4 v5 v6 v7 v8 v9 v10) (ho:Only (fun _=>False) w w'):VB w' b v0 v1 v2 v3 v4 v5 v6 v7 v8 v9 v10:=h.kept ho (fun h=>h)
theorem VB.new (w:World) (v0 v1 v2 v3 v4 v5 v6 v7 v8 v9 v10:Value):VB (w.alloc (.cells #[v0,v1,v2,v3,v4,v5,v6,v7,v8,v9,v10] 42)) w.heap.size v0 v1 v2 v3 v4 v5 v6 v7 v8 v9 v10 :=
  ⟨by simp,by simp,by simp,by simp,by simp,by simp,by simp,by simp,by simp,by simp,by simp,by simp,by simp,by simp,by simp,by simp,by simp,by simp,by simp,by simp,by simp,by simp,by simp⟩
structure TB (w:World) (b:Nat) (v0 v1 v2 v3 v4:Value):Prop where
  c0:w.cell? ⟨b,0,none⟩=some v0
  c1:w.cell? ⟨b,1,none⟩=some v1
  c2:w.cell? ⟨b,2,none⟩=some v2
  c3:w.cell? ⟨b,3,none⟩=some v3
  c4:w.cell? ⟨b,4,none⟩=some v4
  f0:w.frozen? ⟨b,0,none⟩=false
  f1:w.frozen? ⟨b,1,none⟩=false
  f2:w.frozen? ⟨b,2,none⟩=false
  f3:w.frozen? ⟨b,3,none⟩=false
  f4:w.frozen? ⟨b,4,none⟩=false
  lt:b < w.heap.size
theorem TB.kept {S:Nat→Prop} {w w':World} {b:Nat} {v0 v1 v2 v3 v4:Value} (h:TB w b v0 v1 v2 v3 v4) (ho:Only S w w') (hS:¬ S b):TB w' b v0 v1 v2 v3 v4 :=
  ⟨(ho.cell (p:=⟨b,0,none⟩) h.lt hS).trans h.c0,(ho.cell (p:=⟨b,1,none⟩) h.lt hS).trans h.c1,(ho.cell (p:=⟨b,2,none⟩) h.lt hS).trans h.c2,(ho.cell (p:=⟨b,3,none⟩) h.lt hS).trans h.c3,(ho.cell (p:=⟨b,4,none⟩) h.lt hS).trans h.c4,
   (ho.frozen (p:=⟨b,0,none⟩) h.lt hS).trans h.f0,(ho.frozen (p:=⟨b,1,none⟩) h.lt hS).trans h.f1,(ho.frozen (p:=⟨b,2,none⟩) h.lt hS).trans h.f2,(ho.frozen (p:=⟨b,3,none⟩) h.lt hS).trans h.f3,(ho.frozen (p:=⟨b,4,none⟩) h.lt hS).trans h.f4,Nat.lt_of_lt_of_le h.lt ho.size⟩
theorem TB.more {w w':World} {b:Nat} {v0 v1 v2 v3 v4:Value} (h:TB w b v0 v1 v2 v3 v4) (ho:Only (fun _=>False) w w'):TB w' b v0 v1 v2 v3 v4:=h.kept ho (fun h=>h)
theorem TB.new (w:World) (v0 v1 v2 v3 v4:Value):TB (w.alloc (.cells #[v0,v1,v2,v3,v4] 78)) w.heap.size v0 v1 v2 v3 v4 :=
  ⟨by simp,by simp,by simp,by simp,by simp,by simp,by simp,by simp,by simp,by simp,by simp⟩
theorem quiet_only {f:Nat} {a:Array Value} {w:World} {r:Ending} (h:Calls Tryz.prog f a w fun e w'=>e=r∧w'=w):Calls Tryz.prog f a w fun e w'=>e=r∧Only (fun _=>False) w w' :=
  h.mono (fun e w' ⟨h1,h2⟩=>⟨h1,by rw [h2]; exact Only.refl _ _⟩)
theorem four {z:Int} (h:0≤z) (k:z < 4):z=0∨z=1∨z=2∨z=3:=by omega
end Go.Proofs.YtajjakljheafjaaGreat
