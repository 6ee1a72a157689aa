/- Parts. -/
import Derived.Test.YtipkeeobmihogaaGreatK21
set_option maxRecDepth 100000
namespace Go.Proofs.YtipkeeobmihogaaGreat
open Go.RowKit
def Nd.need (X:Nd) (page:Int):Option (En × Int)→Int × Int
  | none=>(0,140)
  | some k=>if X.std k.1=true then (0,150) else if X.wiK (some k)=3 then (if page=1 then 2 else 1,0) else (0,X.wiK (some k))
set_option maxHeartbeats 3200000 in
theorem need_nd (w:World) (a page:Int) (X:Nd) (s:ByteArray) (B cp:Nat) (ao:Option Addr) (hP:Nm w X B ao) (hF:Fit ao X.items.length cp) (ha:0≤a∧a < 9223372036854775808) :
    Calls Tryz.prog 4 #[.agg #[.int .i64 a,.int .i64 3,.int .i64 X.lv,.int .i64 X.rt,.string (hiB X.hi),.slice ao X.items.length cp],.int .i64 page,.string s] w fun x w'=>x=.returned (.tuple #[.int .i64 (X.need page (brd X.lv s)).1,.int .i64 (X.need page (brd X.lv s)).2])∧Only (fun _=>False) w w':=by
  have HP:=hide (Pag.new w (.int .i64 a) (.int .i64 3) (.int .i64 X.lv) (.int .i64 X.rt) (.string (hiB X.hi)) (.slice ao X.items.length cp))
  have HO:=hide (onlyA w (.cells #[.int .i64 a,.int .i64 3,.int .i64 X.lv,.int .i64 X.rt,.string (hiB X.hi),.slice ao X.items.length cp] 24))
  have HCK:Hid (∀ W,Only (fun _=>False) w W→Calls Tryz.prog 12 #[.agg #[.int .i64 a,.int .i64 3,.int .i64 X.lv,.int .i64 X.rt,.string (hiB X.hi),.slice ao X.items.length cp]] W fun x w'=>x=.returned (.int .i64 0)∧Only (fun _=>False) W w'):=fun W ho=>check_nd W a X B cp ao (hP.more ho) ha
  have HB:=hide (fun W=>bread_any X.lv s W)
  have HST:Hid (∀ (e:En) W,Only (fun _=>False) w W→Calls Tryz.prog 14 #[.agg #[.int .i64 a,.int .i64 3,.int .i64 X.lv,.int .i64 X.rt,.string (hiB X.hi),.slice ao X.items.length cp],.agg #[.string e.key,.int .i64 e.page,.int .i64 e.slot]] W fun x w'=>x=.returned (.bool (X.std e))∧Only (fun _=>False) W w'):=fun e W ho=>stands_nd W a X e B cp ao (hP.more ho)
  have HWI:Hid (∀ W,Only (fun _=>False) w W→Calls Tryz.prog 15 #[.agg #[.int .i64 a,.int .i64 3,.int .i64 X.lv,.int .i64 X.rt,.string (hiB X.hi),.slice ao X.items.length cp],.string s] W fun x w'=>Res W w' x (X.wiP a (brd X.lv s)) (X.wiK (brd X.lv s))):=fun W ho=>with_nd W a X s B cp ao (hP.more ho) hF
  clear hP hF ha
  obtain ⟨b,hb⟩:=exq (brd X.lv s)
  rw [hb] at HB HWI ⊢
  clear hb
  obtain ⟨⟨N,E⟩,hNE⟩:∃ q,X.need page b=q:=⟨_,rfl⟩
  rw [hNE]
  have HNE:=hide hNE
  clear hNE
  simp only []
  obtain ⟨L,hL⟩:=exq ((X.lv:Int))
  obtain ⟨R,hR⟩:=exq ((X.rt:Int))
  obtain ⟨h,hh⟩:=exq (hiB X.hi)
  obtain ⟨n,hn⟩:=exq (X.items.length)
  rw [hL,hR,hh,hn] at HP HO HCK HST HWI ⊢
  rw [hL] at HB
  clear hL hR hh hn
  go_enter Tryz.func4,Tryz.ntmps4
  go_upto_region 1 with fail
  obtain ⟨W0,hW0⟩:=exq (w.alloc (.cells #[.int .i64 a,.int .i64 3,.int .i64 L,.int .i64 R,.string h,.slice ao n cp] 24))
  rw [hW0] at HP HO ⊢
  clear hW0
  obtain ⟨p0,p1,p2,p3,p4,p5,_⟩:=HP.out
  go_wp2_with fail
  refine (HCK.out _ HO.out).mono ?_
  rintro x w1 ⟨rfl,ho⟩
  have HP1:=hide (HP.out.more ho)
  have HO1:=hide (o2 HO.out ho)
  clear ho p0 p1 p2 p3 p4 p5 HP HO HCK
  obtain ⟨p0,p1,p2,p3,p4,p5,_⟩:=HP1.out
  cases b with
  | none=>
    have HB2:Hid (∀ W,Calls Tryz.prog 13 #[.int .i64 L,.string s] W fun x w'=>x=.returned (.tuple #[.agg #[.string ⟨#[]⟩,.int .i64 0,.int .i64 0],.int .i64 0,.int .i64 140])∧Only (fun _=>False) W w'):=HB
    have HN:Hid (N=0∧E=140):=by
      have h:=HNE.out
      unfold Nd.need at h
      simp only [Prod.mk.injEq] at h
      exact ⟨h.1.symm,h.2.symm⟩
    clear HNE
    go_wp2_with fail
    refine (HB2.out _).mono ?_
    rintro x w2 ⟨rfl,ho⟩
    have HO2:=hide (o2 HO1.out ho)
    clear ho
    go_wp2_with fail
    go_ret2
    obtain ⟨rfl,rfl⟩:=HN.out
    exact ⟨rfl,o2 HO2.out (onlyA _ _)⟩
  | some k=>
    obtain ⟨e,c⟩:=k
    have HB2:Hid (∀ W,Calls Tryz.prog 13 #[.int .i64 L,.string s] W fun x w'=>x=.returned (.tuple #[.agg #[.string e.key,.int .i64 e.page,.int .i64 e.slot],.int .i64 c,.int .i64 0])∧Only (fun _=>False) W w'):=HB
    clear HB
    have HST1:=hide (HST.out e)
    have HN:Hid ((if X.std e=true then ((0:Int),(150:Int)) else if X.wiK (some (e,c))=3 then (if page=1 then 2 else 1,0) else (0,X.wiK (some (e,c))))=(N,E)):=HNE.out
    clear HNE
    obtain ⟨T,hT⟩:=exq (X.std e)
    obtain ⟨K,hK⟩:=exq (X.wiK (some (e,c)))
    rw [hT] at HST1 HN
    rw [hK] at HWI HN
    clear hT hK HST
    go_wp2_with fail
    refine (HB2.out _).mono ?_
    rintro x w2 ⟨rfl,ho⟩
    have HP2:=hide (HP1.out.more ho)
    have HO2:=hide (o2 HO1.out ho)
    clear ho p0 p1 p2 p3 p4 p5 HP1 HO1 HB2
    go_upto_region 4 with fail
    have HA:=hide (onlyA w2 (.cells #[.string e.key,.int .i64 e.page,.int .i64 e.slot] 41))
    have HV:=hide (Ev.new w2 e)
    obtain ⟨cb,hcb⟩:=exq (w2.heap.size)
    rw [hcb] at HV ⊢
    clear hcb
    obtain ⟨w3,hw3⟩:=exq (w2.alloc (.cells #[.string e.key,.int .i64 e.page,.int .i64 e.slot] 41))
    rw [hw3] at HA HV ⊢
    clear hw3
    have HP3:=hide (HP2.out.more HA.out)
    have HO3:=hide (o2 HO2.out HA.out)
    clear HA HP2 HO2
    obtain ⟨p0,p1,p2,p3,p4,p5,_⟩:=HP3.out
    obtain ⟨d0,d1,d2,_⟩:=HV.out
    go_wp2_with fail
    refine (HST1.out _ HO3.out).mono ?_
    rintro x w4 ⟨rfl,ho⟩
    have HP4:=hide (HP3.out.more ho)
    have HO4:=hide (o2 HO3.out ho)
    clear ho p0 p1 p2 p3 p4 p5 d0 d1 d2 HP3 HO3 HV HST1
    obtain ⟨p0,p1,p2,p3,p4,p5,_⟩:=HP4.out
    cases T with
    | true=>
      have HN2:Hid (N=0∧E=150):=by
        have h:=HN.out
        rw [if_pos rfl,Prod.mk.injEq] at h
        exact ⟨h.1.symm,h.2.symm⟩
      clear HN
      go_wp2_with fail
      go_ret2
      obtain ⟨rfl,rfl⟩:=HN2.out
      exact ⟨rfl,HO4.out⟩
    | false=>
      rw [if_neg (by decide)] at HN
      have HWI1:=hide (HWI.out w4 HO4.out)
      by_cases k3:K=3
      · subst k3
        by_cases pg:page=1
        · have HN2:Hid (N=2∧E=0):=by
            have h:=HN.out
            rw [if_pos rfl,if_pos pg,Prod.mk.injEq] at h
            exact ⟨h.1.symm,h.2.symm⟩
          clear HN
          go_wp2_with fail
          refine HWI1.out.mono ?_
          rintro x w5 ⟨B5,ao5,cp5,rfl,hS5,hF5,ho5,hB5⟩
          have HO5:=hide (o2 HO4.out ho5)
          clear hS5 hF5 hB5 ho5
          go_wp2_with fail
          go_ret2
          obtain ⟨rfl,rfl⟩:=HN2.out
          exact ⟨rfl,o2 HO5.out (onlyA _ _)⟩
        · have HN2:Hid (N=1∧E=0):=by
            have h:=HN.out
            rw [if_pos rfl,if_neg pg,Prod.mk.injEq] at h
            exact ⟨h.1.symm,h.2.symm⟩
          clear HN
          go_wp2_with fail
          refine HWI1.out.mono ?_
          rintro x w5 ⟨B5,ao5,cp5,rfl,hS5,hF5,ho5,hB5⟩
          have HO5:=hide (o2 HO4.out ho5)
          clear hS5 hF5 hB5 ho5
          go_wp2_with fail
          go_ret2
          obtain ⟨rfl,rfl⟩:=HN2.out
          exact ⟨rfl,o2 HO5.out (onlyA _ _)⟩
      · have HN2:Hid (N=0∧E=K):=by
          have h:=HN.out
          rw [if_neg k3,Prod.mk.injEq] at h
          exact ⟨h.1.symm,h.2.symm⟩
        clear HN
        go_wp2_with fail
        refine HWI1.out.mono ?_
        rintro x w5 ⟨B5,ao5,cp5,rfl,hS5,hF5,ho5,hB5⟩
        have HO5:=hide (o2 HO4.out ho5)
        clear hS5 hF5 hB5 ho5
        go_wp2_with fail
        go_ret2
        obtain ⟨rfl,rfl⟩:=HN2.out
        exact ⟨rfl,o2 HO5.out (onlyA _ _)⟩
set_option maxHeartbeats 1600000 in
theorem changed_any (w:World) (a k v r:Int) (h:ByteArray) (sl:Value) (A0 A1 A2:Option Addr) (B0 B1 B2 C0 C1 C2 n0 n1 n2:Nat) (l0 l1 l2:List ByteArray) (more:Bool) (e0:n0=l0.length) (e1:n1=l1.length) (e2:n2=l2.length)
    (h0:Strs w B0 A0 l0) (h1:Strs w B1 A1 l1) (h2:Strs w B2 A2 l2) (f0:Fit A0 n0 C0) (f1:Fit A1 n1 C1) (f2:Fit A2 n2 C2) (hh:h.size≤140737488355328) (hroom:n0+n1+n2≤8796093022207) :
    Calls Tryz.prog 130 #[.agg #[.int .i64 a,.int .i64 k,.int .i64 v,.int .i64 r,.string h,sl],.slice A0 n0 C0,.slice A1 n1 C1,.slice A2 n2 C2,.bool more] w fun e w'=>
      Or3 w w' e (more=true∧(255 < (l0++l1++l2).length∨512 < 20+h.size+isz (l0++l1++l2))) ⟨a,k,v,r,h,l0++l1++l2⟩:=by
  have HB0:=hide (boxes_only w a k v r h sl)
  have HB1:=hide (boxes_one w a k v r h sl)
  have HB2:=hide (boxes_two w a k v r h sl)
  have HBZ:=hide (boxes_size w a k v r h sl)
  obtain ⟨W0,hW0⟩:=exq (boxes w a k v r h sl)
  have HW0:=hide hW0
  rw [hW0] at HB0 HB1 HB2 HBZ
  clear hW0
  subst e0
  subst e1
  subst e2
  obtain ⟨v1,w1,r1,k1,o1⟩:=append_strs W0 22 W0.heap.size (.slice none 0 0) [] (Ls.nil _ _) B0 C0 A0 l0 (h0.more HB0.out) f0 (by simp; omega) (Nat.le_refl _)
  obtain ⟨v2,w2,r2,k2,q2⟩:=append_strs w1 22 W0.heap.size v1 _ k1 B1 C1 A1 l1 (h1.kept (HB0.out.trans o1 (fun i hi e=>by have:=HB0.out.size; omega)) (fun _ h=>h)) f1 (by simp; omega) o1.size
  obtain ⟨v3,w3,r3,k3,q3⟩:=append_strs w2 22 W0.heap.size v2 _ k2 B2 C2 A2 l2 (h2.kept (HB0.out.trans (o1.trans q2 (fun _ _ h=>h)) (fun i hi e=>by have:=HB0.out.size; omega)) (fun _ h=>h)) f2 (by simp; omega) (Nat.le_trans o1.size q2.size)
  simp only [List.nil_append] at k3
  have ho3:Only (fun k=>W0.heap.size≤k) W0 w3:=(o1.trans q2 (fun _ _ h=>h)).trans q3 (fun _ _ h=>h)
  have hsz:∀ s ∈ l0++l1++l2,s.size≤140737488355328:=by
    intro s hs
    simp only [List.mem_append] at hs
    rcases hs with (hs | hs) | hs
    · exact h0.size s hs
    · exact h1.size s hs
    · exact h2.size s hs
  have hln:(l0++l1++l2).length=l0.length+l1.length+l2.length:=by simp; omega
  obtain ⟨B5,ao5,cp5,rfl,hS5,hF5,hB5,_⟩:=k3.strs (by omega) hsz
  have hzz:=HBZ.out
  have HA:Hid (Aft w w3 a k v r h sl B5 ao5 cp5 (l0++l1++l2)):=⟨HB1.out.kept ho3 (by omega),HB2.out.kept ho3 (by omega),hS5,hF5,HB0.out.trans ho3 (fun i hi e=>by omega),fun h=>by have:=hB5 h; omega⟩
  have R1:=hide r1
  have R2:=hide r2
  have R3:=hide r3
  have HLN:=hide hln
  obtain ⟨nl,hnl⟩:=exq (l0++l1++l2)
  rw [hnl] at HA HLN R3 ⊢
  clear r1 r2 r3 k1 k2 k3 o1 q2 q3 ho3 hS5 hF5 hB5 hln hsz h0 h1 h2 f0 f1 f2 hnl hzz
  obtain ⟨p0,p1,p2,p3,p4,p5,g0,g1,g2,g3,g4,g5,gl⟩:=HA.out.one
  have hnb:nl.length≤8796093022207:=by have:=HLN.out; omega
  clear hroom
  obtain ⟨q0,q1,q2,q3,q4,q5,t0,t1,t2,t3,t4,t5,tl⟩:=HA.out.two
  have HA4:=hide (HA.out.store (.slice ao5 nl.length cp5))
  cases more with
  | false=>
    go_enter Tryz.func130,Tryz.ntmps130
    go_wp2_with (first
      | (at_builtin; refine Lib.wpList_append_run _ rfl (.tmp 13) (.tmp 14) _ _ rfl _ _ rfl rfl _ _ (by have e:=R1.out; rw [← HW0.out] at e; exact e) ?_)
      | (at_builtin; refine Lib.wpList_append_run _ rfl (.tmp 16) (.tmp 17) _ _ rfl _ _ rfl rfl _ _ R2.out ?_)
      | (at_builtin; refine Lib.wpList_append_run _ rfl (.tmp 19) (.tmp 20) _ _ rfl _ _ rfl rfl _ _ R3.out ?_))
    refine bodyPost_ret (results_page rfl rfl (Pag.six HA4.out.two _ _ _ _ _ _)) rfl ?_
    exact Or3.no (by simp) (HA4.out.res _ _ _ _ _ _ 0 _ rfl).1
  | true=>
    by_cases hn:255 < nl.length
    · have hn':(255:Int) < (nl.length:Int):=by omega
      have HC:=hide hn
      clear hn
      go_enter Tryz.func130,Tryz.ntmps130
      go_wp2_with (first
        | (at_builtin; refine Lib.wpList_append_run _ rfl (.tmp 13) (.tmp 14) _ _ rfl _ _ rfl rfl _ _ (by have e:=R1.out; rw [← HW0.out] at e; exact e) ?_)
        | (at_builtin; refine Lib.wpList_append_run _ rfl (.tmp 16) (.tmp 17) _ _ rfl _ _ rfl rfl _ _ R2.out ?_)
        | (at_builtin; refine Lib.wpList_append_run _ rfl (.tmp 19) (.tmp 20) _ _ rfl _ _ rfl rfl _ _ R3.out ?_))
      refine bodyPost_ret (results_page rfl rfl (Pag.six HA4.out.two _ _ _ _ _ _)) rfl ?_
      exact Or3.yes ⟨by simp,.inl HC.out⟩ (Res.none 3 (HA4.out.res _ _ _ _ _ _ 0 _ rfl).2)
    · have hn':¬ (255:Int) < (nl.length:Int):=by omega
      have HC:=hide hn
      clear hn
      have HZ:=hide (w64_few HA.out.strs.size hh (by have:=HC.out; omega))
      have HX:=hide (ysize_any _ a k v r h B5 cp5 ao5 nl HA4.out.strs hh)
      rw [HZ.out] at HX
      obtain ⟨z,hz⟩:∃ z:Nat,20+h.size+isz nl=z:=⟨_,rfl⟩
      have hz2:(20+h.size+isz nl:Int)=z:=by omega
      rw [hz2] at HX
      rw [hz]
      have hzb:z≤9000000000000000000:=by have:=isz_le HA.out.strs.size; have:=HC.out; omega
      clear hz hz2 HZ
      go_enter Tryz.func130,Tryz.ntmps130
      go_wp2_with (first
        | (at_builtin; refine Lib.wpList_append_run _ rfl (.tmp 13) (.tmp 14) _ _ rfl _ _ rfl rfl _ _ (by have e:=R1.out; rw [← HW0.out] at e; exact e) ?_)
        | (at_builtin; refine Lib.wpList_append_run _ rfl (.tmp 16) (.tmp 17) _ _ rfl _ _ rfl rfl _ _ R2.out ?_)
        | (at_builtin; refine Lib.wpList_append_run _ rfl (.tmp 19) (.tmp 20) _ _ rfl _ _ rfl rfl _ _ R3.out ?_))
      refine HX.out.mono ?_
      rintro e w6 ⟨rfl,ho6⟩
      have HA6:=hide (HA4.out.more ho6)
      obtain ⟨y0,y1,y2,y3,y4,y5,s0,s1,s2,s3,s4,s5,sl'⟩:=HA6.out.one
      obtain ⟨x0,x1,x2,x3,x4,x5,u0,u1,u2,u3,u4,u5,ul⟩:=HA6.out.two
      clear ho6 p0 p1 p2 p3 p4 p5 g0 g1 g2 g3 g4 g5 gl q0 q1 q2 q3 q4 q5 t0 t1 t2 t3 t4 t5 tl
      by_cases hc:512 < z
      · have hc':(512:Int) < (z:Int):=by omega
        have HD:=hide hc
        clear hc
        go_wp2_with fail
        refine bodyPost_ret (results_page rfl rfl (Pag.six HA6.out.two _ _ _ _ _ _)) rfl ?_
        exact Or3.yes ⟨by simp,.inr HD.out⟩ (Res.none 3 (HA6.out.res _ _ _ _ _ _ 0 _ rfl).2)
      · have hc':¬ (512:Int) < (z:Int):=by omega
        have HD:=hide hc
        clear hc
        go_wp2_with fail
        refine bodyPost_ret (results_page rfl rfl (Pag.six HA6.out.two _ _ _ _ _ _)) rfl ?_
        exact Or3.no (fun hx=>hx.2.elim HC.out HD.out) (HA6.out.res _ _ _ _ _ _ 0 _ rfl).1
end Go.Proofs.YtipkeeobmihogaaGreat
