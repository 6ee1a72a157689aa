/- Parts. -/
import Derived.Test.YtipkeeobmihogaaGreatK32
import Derived.Test.YtipkeeobmihogaaGreatK42
import Derived.Test.YtipkeeobmihogaaGreatK44
set_option maxRecDepth 100000
namespace Go.Proofs.YtipkeeobmihogaaGreat
open Go.RowKit
theorem fsplit_nd (w:World) (a:Int) (X:Nd) (j B cp:Nat) (ao:Option Addr) (hP:Nm w X B ao) (hF:Fit ao X.items.length cp) (hj:okC j=true) (hn:2≤X.ks.length) (ha:0≤a∧a < 9223372036854775808) :
    Calls Tryz.prog 21 #[.agg #[.int .i64 a,.int .i64 3,.int .i64 X.lv,.int .i64 X.rt,.string (hiB X.hi),.slice ao X.items.length cp],.int .i64 j] w fun x w'=>SpR w w' x a X j:=by
  obtain ⟨lo,hok⟩:=hP.ok
  have hb:=(hok.bord hn).1
  have hh:=Nd.half_lt hn
  have hil:=Nd.items_len X
  have ehalf:(X.items.length+1) / 2=X.half:=by rw [hil]; rfl
  have rl:=Nd.rest_len hn
  have eL:∀ ao1 cp1,((X.left j).z a ao1 cp1).ar=#[.int .i64 a,.int .i64 3,.int .i64 X.lv,.int .i64 j,.string X.bord.enc,.slice ao1 X.half cp1]:=by
    intro ao1 cp1
    have l1:(X.left j).items.length=X.half:=by rw [Nd.left_items,List.length_take]; omega
    show (#[.int .i64 a,.int .i64 3,.int .i64 X.lv,.int .i64 j,.string (hiB X.bord),.slice ao1 (X.left j).items.length cp1]:Array Value)=_
    rw [l1,hiB_ok hb]
  have eR:∀ ao2 cp2,(X.right.z a ao2 cp2).ar=#[.int .i64 a,.int .i64 3,.int .i64 X.lv,.int .i64 X.rt,.string (hiB X.hi),.slice ao2 (X.items.length - X.half) cp2]:=by
    intro ao2 cp2
    have l1:X.right.items.length=X.items.length - X.half:=by rw [Nd.items_len]; show X.rest.length=_; omega
    show (#[.int .i64 a,.int .i64 3,.int .i64 X.lv,.int .i64 X.rt,.string (hiB X.hi),.slice ao2 X.right.items.length cp2]:Array Value)=_
    rw [l1]
  have fin:∀ (x:Ending) (w':World),SplN w w' x a X.lv X.rt (hiB X.hi) j X.items X.half (X.items.length - X.half) X.bord X.right.items→SpR w w' x a X j:=by
    rintro x w' ⟨B1,ao1,cp1,B2,ao2,cp2,rfl,s1,s2,f1,f2,n1,n2,ho⟩
    refine ⟨ao1,cp1,ao2,cp2,by rw [eL,eR],⟨⟨B1,?_,fun _=>n1⟩,?_⟩,⟨⟨B2,s2,fun _=>n2⟩,?_⟩,ho⟩
    · show Strs w' B1 ao1 (X.left j).items
      rw [Nd.left_items]; exact s1
    · show Fit ao1 (X.left j).items.length cp1
      rw [Nd.left_items,List.length_take,Nat.min_eq_left (by omega)]; exact f1
    · show Fit ao2 X.right.items.length cp2
      rw [Nd.items_len]
      show Fit ao2 X.rest.length cp2
      rw [rl,← hil]; exact f2
  rcases Nat.eq_zero_or_pos X.lv with v | v
  · have h:=fsplit_leaf w a X.rt (hiB X.hi) X.hi j B cp ao X.items X.es (hP.lp v) hF hj (by omega) (fun W ho=>by
      have q:=fcheck_nd W a X B cp ao (hP.more ho) ha
      rw [v,Int.ofNat_zero] at q
      exact q)
    rw [v,Int.ofNat_zero]
    refine h.mono (fun x w' q=>fin x w' ?_)
    rw [ehalf] at q
    rw [v,Int.ofNat_zero,Nd.right_leaf v]
    have e:X.es.getD (X.half - 1) noE=X.bord:=by
      unfold Nd.bord
      rw [if_pos v]
      unfold Nd.es
      rw [List.getD_eq_getElem?_getD,List.getD_eq_getElem?_getD,List.getElem?_map]
      cases X.ks[X.half - 1]? <;> rfl
    rw [e] at q
    exact q
  · have h:=fsplit_inner w a X.lv X.rt (hiB X.hi) X.hi j B cp ao X.items X.ks (hP.ip v) hF hj (by omega) (fun W ho=>fcheck_nd W a X B cp ao (hP.more ho) ha)
    refine h.mono (fun x w' q=>fin x w' ?_)
    rw [ehalf] at q
    rw [Nd.right_inner v]
    have e:(X.ks.getD X.half (noE,0)).1=X.bord:=by
      unfold Nd.bord
      rw [if_neg (by omega)]
    rw [e] at q
    exact q
theorem sp_zero (W:World) (p:Nat) (u0 u1 u2 u3 u4 u5 v0 v1 v2 v3 v4 v5:Value) (e:En) (h1:Pag W (p+1) u0 u1 u2 u3 u4 u5) (h2:Pag W (p+1+1) v0 v1 v2 v3 v4 v5) (h3:Ev W (p+1+1+1) e) :
    Pag (((((((((((((((W.setCell ⟨p+1,0,none⟩ (.int .i64 0)).setCell ⟨p+1,1,none⟩ (.int .i64 0)).setCell ⟨p+1,2,none⟩ (.int .i64 0)).setCell ⟨p+1,3,none⟩ (.int .i64 0)).setCell ⟨p+1,4,none⟩ (.string ⟨#[]⟩)).setCell ⟨p+1,5,none⟩ (.slice none 0 0)).setCell ⟨p+1+1,0,none⟩ (.int .i64 0)).setCell ⟨p+1+1,1,none⟩ (.int .i64 0)).setCell ⟨p+1+1,2,none⟩ (.int .i64 0)).setCell ⟨p+1+1,3,none⟩ (.int .i64 0)).setCell ⟨p+1+1,4,none⟩ (.string ⟨#[]⟩)).setCell ⟨p+1+1,5,none⟩ (.slice none 0 0)).setCell ⟨p+1+1+1,0,none⟩ (.string ⟨#[]⟩)).setCell ⟨p+1+1+1,1,none⟩ (.int .i64 0)).setCell ⟨p+1+1+1,2,none⟩ (.int .i64 0)) (p+1) (.int .i64 0) (.int .i64 0) (.int .i64 0) (.int .i64 0) (.string ⟨#[]⟩) (.slice none 0 0)∧Pag (((((((((((((((W.setCell ⟨p+1,0,none⟩ (.int .i64 0)).setCell ⟨p+1,1,none⟩ (.int .i64 0)).setCell ⟨p+1,2,none⟩ (.int .i64 0)).setCell ⟨p+1,3,none⟩ (.int .i64 0)).setCell ⟨p+1,4,none⟩ (.string ⟨#[]⟩)).setCell ⟨p+1,5,none⟩ (.slice none 0 0)).setCell ⟨p+1+1,0,none⟩ (.int .i64 0)).setCell ⟨p+1+1,1,none⟩ (.int .i64 0)).setCell ⟨p+1+1,2,none⟩ (.int .i64 0)).setCell ⟨p+1+1,3,none⟩ (.int .i64 0)).setCell ⟨p+1+1,4,none⟩ (.string ⟨#[]⟩)).setCell ⟨p+1+1,5,none⟩ (.slice none 0 0)).setCell ⟨p+1+1+1,0,none⟩ (.string ⟨#[]⟩)).setCell ⟨p+1+1+1,1,none⟩ (.int .i64 0)).setCell ⟨p+1+1+1,2,none⟩ (.int .i64 0)) (p+1+1) (.int .i64 0) (.int .i64 0) (.int .i64 0) (.int .i64 0) (.string ⟨#[]⟩) (.slice none 0 0)∧Ev (((((((((((((((W.setCell ⟨p+1,0,none⟩ (.int .i64 0)).setCell ⟨p+1,1,none⟩ (.int .i64 0)).setCell ⟨p+1,2,none⟩ (.int .i64 0)).setCell ⟨p+1,3,none⟩ (.int .i64 0)).setCell ⟨p+1,4,none⟩ (.string ⟨#[]⟩)).setCell ⟨p+1,5,none⟩ (.slice none 0 0)).setCell ⟨p+1+1,0,none⟩ (.int .i64 0)).setCell ⟨p+1+1,1,none⟩ (.int .i64 0)).setCell ⟨p+1+1,2,none⟩ (.int .i64 0)).setCell ⟨p+1+1,3,none⟩ (.int .i64 0)).setCell ⟨p+1+1,4,none⟩ (.string ⟨#[]⟩)).setCell ⟨p+1+1,5,none⟩ (.slice none 0 0)).setCell ⟨p+1+1+1,0,none⟩ (.string ⟨#[]⟩)).setCell ⟨p+1+1+1,1,none⟩ (.int .i64 0)).setCell ⟨p+1+1+1,2,none⟩ (.int .i64 0)) (p+1+1+1) noE∧Only (fun k=>p < k) W (((((((((((((((W.setCell ⟨p+1,0,none⟩ (.int .i64 0)).setCell ⟨p+1,1,none⟩ (.int .i64 0)).setCell ⟨p+1,2,none⟩ (.int .i64 0)).setCell ⟨p+1,3,none⟩ (.int .i64 0)).setCell ⟨p+1,4,none⟩ (.string ⟨#[]⟩)).setCell ⟨p+1,5,none⟩ (.slice none 0 0)).setCell ⟨p+1+1,0,none⟩ (.int .i64 0)).setCell ⟨p+1+1,1,none⟩ (.int .i64 0)).setCell ⟨p+1+1,2,none⟩ (.int .i64 0)).setCell ⟨p+1+1,3,none⟩ (.int .i64 0)).setCell ⟨p+1+1,4,none⟩ (.string ⟨#[]⟩)).setCell ⟨p+1+1,5,none⟩ (.slice none 0 0)).setCell ⟨p+1+1+1,0,none⟩ (.string ⟨#[]⟩)).setCell ⟨p+1+1+1,1,none⟩ (.int .i64 0)).setCell ⟨p+1+1+1,2,none⟩ (.int .i64 0)):=by
  have s1:=Only.six W (p+1) (.int .i64 0) (.int .i64 0) (.int .i64 0) (.int .i64 0) (.string ⟨#[]⟩) (.slice none 0 0)
  have s2:=Only.six ((((((W.setCell ⟨p+1,0,none⟩ (.int .i64 0)).setCell ⟨p+1,1,none⟩ (.int .i64 0)).setCell ⟨p+1,2,none⟩ (.int .i64 0)).setCell ⟨p+1,3,none⟩ (.int .i64 0)).setCell ⟨p+1,4,none⟩ (.string ⟨#[]⟩)).setCell ⟨p+1,5,none⟩ (.slice none 0 0)) (p+1+1) (.int .i64 0) (.int .i64 0) (.int .i64 0) (.int .i64 0) (.string ⟨#[]⟩) (.slice none 0 0)
  have s3:=Only.three ((((((((((((W.setCell ⟨p+1,0,none⟩ (.int .i64 0)).setCell ⟨p+1,1,none⟩ (.int .i64 0)).setCell ⟨p+1,2,none⟩ (.int .i64 0)).setCell ⟨p+1,3,none⟩ (.int .i64 0)).setCell ⟨p+1,4,none⟩ (.string ⟨#[]⟩)).setCell ⟨p+1,5,none⟩ (.slice none 0 0)).setCell ⟨p+1+1,0,none⟩ (.int .i64 0)).setCell ⟨p+1+1,1,none⟩ (.int .i64 0)).setCell ⟨p+1+1,2,none⟩ (.int .i64 0)).setCell ⟨p+1+1,3,none⟩ (.int .i64 0)).setCell ⟨p+1+1,4,none⟩ (.string ⟨#[]⟩)).setCell ⟨p+1+1,5,none⟩ (.slice none 0 0)) (p+1+1+1) (.string ⟨#[]⟩) (.int .i64 0) (.int .i64 0)
  exact ⟨((Pag.six h1 (.int .i64 0) (.int .i64 0) (.int .i64 0) (.int .i64 0) (.string ⟨#[]⟩) (.slice none 0 0)).kept s2 (by omega)).kept s3 (by omega),(Pag.six (h2.kept s1 (by omega)) (.int .i64 0) (.int .i64 0) (.int .i64 0) (.int .i64 0) (.string ⟨#[]⟩) (.slice none 0 0)).kept s3 (by omega),((h3.kept s1 (by omega)).kept s2 (by omega)).all noE,((s1.mono (fun k _ h=>by omega)).trans (s2.mono (fun k _ h=>by omega)) (fun _ _ h=>h)).trans (s3.mono (fun k _ h=>by omega)) (fun _ _ h=>h)⟩
set_option maxHeartbeats 3200000 in
theorem fsplit_no (w:World) (a:Int) (X:Nd) (c:Int) (B cp:Nat) (ao:Option Addr) (hP:Nm w X B ao) (ha:0≤a∧a < 9223372036854775808) (hc:okC c=false) (hn:2≤X.ks.length) :
    Calls Tryz.prog 21 #[.agg #[.int .i64 a,.int .i64 3,.int .i64 X.lv,.int .i64 X.rt,.string (hiB X.hi),.slice ao X.items.length cp],.int .i64 c] w fun x w'=>x=.returned (.tuple #[.agg #[.int .i64 0,.int .i64 0,.int .i64 0,.int .i64 0,.string ⟨#[]⟩,.slice none 0 0],.agg #[.int .i64 0,.int .i64 0,.int .i64 0,.int .i64 0,.string ⟨#[]⟩,.slice none 0 0],.agg #[.string ⟨#[]⟩,.int .i64 0,.int .i64 0],.int .i64 140])∧Only (fun _=>False) w w':=by
  have HX:=hide (SvI.new w a X.lv X.rt (hiB X.hi) ao X.items.length cp)
  have hl:=Nd.items_len X
  have hlen:¬ (X.items.length:Int) < 2:=by omega
  have HCK:Hid (∀ W,Only (fun _=>False) w W→Calls Tryz.prog 41 #[.agg #[.int .i64 a,.int .i64 3,.int .i64 X.lv,.int .i64 X.rt,.string (hiB X.hi),.slice ao X.items.length cp]] W fun x w'=>x=.returned (.int .i64 0)∧Only (fun _=>False) W w'):=fun W ho=>fcheck_nd W a X B cp ao (hP.more ho) ha
  have HIC:Hid (∀ W,Calls Tryz.prog 52 #[.int .i64 c] W fun x w'=>x=.returned (.bool false)∧w'=W):=fun W=>by
    have:=fchild_any c W
    rwa [hc] at this
  clear hP ha hc hl hn
  obtain ⟨L,hL⟩:=exq ((X.lv:Int))
  obtain ⟨R,hR⟩:=exq ((X.rt:Int))
  obtain ⟨h,hh⟩:=exq (hiB X.hi)
  obtain ⟨n,hn2⟩:=exq (X.items.length)
  rw [hL,hR,hh,hn2] at HX HCK
  rw [hn2] at hlen
  rw [hL,hR,hh,hn2]
  clear hL hR hh hn2
  go_enter Tryz.func21,Tryz.ntmps21
  go_upto_region 1 with fail
  obtain ⟨W0,hW0⟩:=exq (svI w a L R h ao n cp)
  rw [hW0] at HX
  unfold svI at hW0
  rw [hW0]
  clear hW0
  obtain ⟨p0,p1,p2,p3,p4,p5,_⟩:=HX.out.pag
  go_wp2_with fail
  refine (HCK.out W0 HX.out.only).mono ?_
  rintro x w1 ⟨rfl,ho⟩
  have HX1:=hide (HX.out.more ho)
  clear ho p0 p1 p2 p3 p4 p5 HX HCK
  go_wp2_with fail
  refine (HIC.out _).mono ?_
  rintro x w3 ⟨rfl,h4⟩
  obtain rfl:=h4.symm
  clear h4
  have HFIN:Hid (Only (fun _=>False) w1 w1):=Only.refl _ _
  have HX2:=hide (HX1.out.more HFIN.out)
  clear HX1
  obtain ⟨_,⟨q0,q1,q2,q3,q4,q5,g0,g1,g2,g3,g4,g5,_⟩,⟨r0,r1,r2,r3,r4,r5,s0,s1,s2,s3,s4,s5,_⟩,⟨e0,e1,e2,t0,t1,t2,_⟩,_⟩:=HX2.out
  go_wp2_with fail
  have HZ:=sp_zero _ w.heap.size _ _ _ _ _ _ _ _ _ _ _ _ _ HX2.out.r1 HX2.out.r2 HX2.out.r3
  refine bodyPost_ret (results_split rfl rfl rfl rfl HZ.1 HZ.2.1 HZ.2.2.1) rfl ?_
  exact ⟨rfl,HX2.out.only.trans HZ.2.2.2 (fun i hi e=>by omega)⟩
set_option maxHeartbeats 3200000 in
theorem msplit_no (w:World) (a:Int) (X:Nd) (c:Int) (B cp:Nat) (ao:Option Addr) (hP:Nm w X B ao) (hc:okC c=false) (hn:2≤X.ks.length) :
    Calls Tryz.prog 49 #[.agg #[.int .i64 a,.int .i64 3,.int .i64 X.lv,.int .i64 X.rt,.string (hiB X.hi),.slice ao X.items.length cp],.int .i64 c] w fun x w'=>x=.returned (.tuple #[.agg #[.int .i64 0,.int .i64 0,.int .i64 0,.int .i64 0,.string ⟨#[]⟩,.slice none 0 0],.agg #[.int .i64 0,.int .i64 0,.int .i64 0,.int .i64 0,.string ⟨#[]⟩,.slice none 0 0],.agg #[.string ⟨#[]⟩,.int .i64 0,.int .i64 0],.int .i64 140])∧Only (fun _=>False) w w':=by
  have HX:=hide (SvI.new w a X.lv X.rt (hiB X.hi) ao X.items.length cp)
  have hl:=Nd.items_len X
  have hlen:¬ (X.items.length:Int) < 2:=by omega
  have HRD:Hid (∀ W,Only (fun _=>False) w W→Calls Tryz.prog 33 #[.agg #[.int .i64 a,.int .i64 3,.int .i64 X.lv,.int .i64 X.rt,.string (hiB X.hi),.slice ao X.items.length cp]] W fun x w'=>(∃ A n1 C A2 n2 C2,x=.returned (.tuple #[.agg #[.slice A n1 C,.slice A2 n2 C2,.string X.hi.key,.int .i64 X.hi.page,.int .i64 X.hi.slot],.bool true]))∧Only (fun _=>False) W w'):=fun W ho=>by
    rcases Nat.eq_zero_or_pos X.lv with v | v
    · have q:=read_leaf W a X.rt (hiB X.hi) X.hi B cp ao X.items X.es ((hP.more ho).lp v)
      rw [v,Int.ofNat_zero]
      refine q.mono ?_
      rintro x w' ⟨A,C,rfl,_,o⟩
      exact ⟨⟨_,_,_,_,_,_,rfl⟩,o⟩
    · have q:=read_inner W a X.lv X.rt (hiB X.hi) X.hi B cp ao X.items X.ks ((hP.more ho).ip v)
      refine q.mono ?_
      rintro x w' ⟨A,C,A2,C2,rfl,_,_,o⟩
      exact ⟨⟨_,_,_,_,_,_,rfl⟩,o⟩
  have HIC:Hid (∀ W,Calls Tryz.prog 81 #[.int .i64 c] W fun x w'=>x=.returned (.bool false)∧w'=W):=fun W=>by
    have:=isChild_any c W
    rwa [hc] at this
  clear hP hc hl hn
  obtain ⟨E,hE⟩:=exq (X.hi)
  obtain ⟨L,hL⟩:=exq ((X.lv:Int))
  obtain ⟨R,hR⟩:=exq ((X.rt:Int))
  obtain ⟨h,hh⟩:=exq (hiB X.hi)
  obtain ⟨n,hn2⟩:=exq (X.items.length)
  rw [hL,hR,hh,hn2] at HX HRD
  rw [hE] at HRD
  rw [hn2] at hlen
  rw [hL,hR,hh,hn2]
  clear hL hR hh hn2 hE
  go_enter Tryz.func49,Tryz.ntmps49
  go_upto_region 1 with fail
  obtain ⟨W0,hW0⟩:=exq (svI w a L R h ao n cp)
  rw [hW0] at HX
  unfold svI at hW0
  rw [hW0]
  clear hW0
  obtain ⟨p0,p1,p2,p3,p4,p5,_⟩:=HX.out.pag
  go_wp2_with fail
  refine (HRD.out W0 HX.out.only).mono ?_
  rintro x w1 ⟨⟨A,n1,C,A2,n2,C2,rfl⟩,ho⟩
  have HXa:=hide (HX.out.more ho)
  have HA:=hide (onlyA w1 (.cells #[.slice A n1 C,.slice A2 n2 C2,.string E.key,.int .i64 E.page,.int .i64 E.slot] 85))
  clear ho p0 p1 p2 p3 p4 p5 HX HRD
  go_upto_region 2 with fail
  obtain ⟨w2,hw2⟩:=exq (w1.alloc (.cells #[.slice A n1 C,.slice A2 n2 C2,.string E.key,.int .i64 E.page,.int .i64 E.slot] 85))
  rw [hw2] at HA ⊢
  clear hw2
  have HX1:=hide (HXa.out.more HA.out)
  have p5:=HX1.out.pag.c5
  clear HXa HA
  go_wp2_with fail
  refine (HIC.out _).mono ?_
  rintro x w3 ⟨rfl,h4⟩
  obtain rfl:=h4.symm
  clear h4 p5
  have HFIN:Hid (Only (fun _=>False) w2 w2):=Only.refl _ _
  have HX2:=hide (HX1.out.more HFIN.out)
  clear HX1
  obtain ⟨_,⟨q0,q1,q2,q3,q4,q5,g0,g1,g2,g3,g4,g5,_⟩,⟨r0,r1,r2,r3,r4,r5,s0,s1,s2,s3,s4,s5,_⟩,⟨e0,e1,e2,t0,t1,t2,_⟩,_⟩:=HX2.out
  go_wp2_with fail
  have HZ:=sp_zero _ w.heap.size _ _ _ _ _ _ _ _ _ _ _ _ _ HX2.out.r1 HX2.out.r2 HX2.out.r3
  refine bodyPost_ret (results_split rfl rfl rfl rfl HZ.1 HZ.2.1 HZ.2.2.1) rfl ?_
  exact ⟨rfl,HX2.out.only.trans HZ.2.2.2 (fun i hi e=>by omega)⟩
variable {K:Nat→Prop}
section
variable {w:World} {f g cap:Nat} {zs:List Pz} {N:Nat} {F:Nat→Nd} {lo:Nat→En} {A:En→Prop} {v:Nat} {e:En} {c:Int} {i:Nat}
theorem nl_hi (X:Nd) (e:En) (c:Int) (j:Nat):(X.nl e c j).hi=X.bord:=by unfold Nd.nl; split <;> rfl
end
variable {K:Nat→Prop}
section
variable {ops:Array Oper} {rest:List Oper} {o:Oper} {a:Act} {w:World} {Q:Exit→Act→World→Prop}
theorem wpList_loadg_br (hw:Region.wanted o (yielded ops a.tmps)=true) (x:Operand) (hop:o.op=.load 36 x) (b:Nat) (hx:a.eval x=.pointer (some ⟨b,0,none⟩)) (r:Br) (hc:Rg w b 0 r.cl)
    (h:wpList Tryz.prog ops Q rest (a.put o.dst (.agg r.cells)) w):wpList Tryz.prog ops Q (o :: rest) a w :=
  BigFrame.wpList_want hw fun _ hK=>wp_load_mid 36 x hop b 0 hx r.cl _ hc.range Tryz.underlying36 rfl Tryz.sizeRecB (hK _ _ h)
end
end Go.Proofs.YtipkeeobmihogaaGreat
namespace Go.Proofs.YtipkeeobmihogaaGreat
open Go.RowKit
set_option maxHeartbeats 1600000 in
theorem rbabove_no (w:World) (r:Br) (h:¬ r.kind=5∨¬ (r.il:Int)=2) :
    Calls Tryz.prog 9 #[.agg r.cells] w fun x w'=>x=.returned (.tuple #[noE.agg,.int .i64 0,.bool false])∧Only (fun _=>False) w w':=by
  have HX:=hide (ab_new w r)
  obtain ⟨k,pp,dd,ia,il,ic⟩:=r
  simp only [] at h
  unfold En.agg
  unfold Br.cells at HX ⊢
  simp only [] at HX ⊢
  go_enter Tryz.func9,Tryz.ntmps9
  go_upto_region 1 with fail
  obtain ⟨W0,hW0⟩:=exq ((w.alloc (.cells #[.int .i64 0,.int .i64 0,.int .i64 0,.int .u8 k,.int .i64 0,.int .i64 pp,.int .i64 0,.int .i64 0,.int .i64 0,.int .i64 0,.string dd,.slice Option.none 0 0,.slice Option.none 0 0,.slice ia il ic,.slice Option.none 0 0,.slice Option.none 0 0] 36)).alloc (.cells #[.string ⟨#[]⟩,.int .i64 0,.int .i64 0] 41))
  rw [hW0] at HX ⊢
  clear hW0
  have c3:=HX.out.1.cell 3 (.int .u8 k) rfl
  have c13:=HX.out.1.cell 13 (.slice ia il ic) rfl
  rw [Nat.zero_add] at c3 c13
  obtain ⟨e0,e1,e2,f0,f1,f2,_⟩:=HX.out.2.1
  by_cases hk:k=5
  · have hi:¬ (il:Int)=2:=by rcases h with q | q; exact absurd hk q; exact q
    have hi2:((il:Int) == 2)=false:=by simpa using hi
    subst hk
    clear h hi
    go_wp2_with fail
    refine bodyPost_ret (results_ev3 rfl rfl (HX.out.2.1.all noE)) rfl ?_
    exact ⟨rfl,HX.out.2.2.trans (Only.three _ _ _ _ _) (fun i hi e=>by omega)⟩
  · have hk2:(k == 5)=false:=by simpa using hk
    clear h
    go_wp2_with fail
    refine bodyPost_ret (results_ev3 rfl rfl (HX.out.2.1.all noE)) rfl ?_
    exact ⟨rfl,HX.out.2.2.trans (Only.three _ _ _ _ _) (fun i hi e=>by omega)⟩
set_option maxHeartbeats 3200000 in
theorem rbabove_two (w:World) (pp:Int) (dd:ByteArray) (b ic:Nat) (p q:Int) (z1 z2:Pz) (C3:List Value) (e:En) (hr:Rg w b 0 (imc p z1++imc q z2++C3)) (hh:z1.p.high=e.enc) (he:e.ok=true) :
    Calls Tryz.prog 9 #[.agg (Br.cells ⟨5,pp,dd,some ⟨b,0,none⟩,2,ic⟩)] w fun x w'=>x=.returned (.tuple #[e.agg,.int .i64 q,.bool true])∧Only (fun _=>False) w w':=by
  have HX:=hide (ab_new w ⟨5,pp,dd,some ⟨b,0,none⟩,2,ic⟩)
  have HD:Hid (∀ W,Calls Tryz.prog 25 #[.string e.enc] W fun x w'=>x=.returned (.tuple #[.agg #[.string e.key,.int .i64 e.page,.int .i64 e.slot],.int .i64 0])∧Only (fun _=>False) W w'):=fun W=>by
    have h:=fdecode_any e.enc W (by have:=enc_size he; unfold maxLen; omega)
    rw [show decE (bl e.enc)=some e from decE_lay he] at h
    exact h
  have HR:=hide hr
  have c5:=hr.cell 5 (.string z1.p.high) rfl
  have c7:=hr.cell 7 (.int .i64 q) rfl
  rw [Nat.zero_add] at c5 c7
  rw [hh] at c5
  have HBL:=hide hr.lt
  clear hr hh he
  obtain ⟨S,hS⟩:=exq (e.enc)
  rw [hS] at c5 HD
  clear hS
  unfold En.agg
  unfold Br.cells at HX ⊢
  simp only [] at HX ⊢
  go_enter Tryz.func9,Tryz.ntmps9
  go_upto_region 1 with fail
  obtain ⟨W0,hW0⟩:=exq ((w.alloc (.cells #[.int .i64 0,.int .i64 0,.int .i64 0,.int .u8 5,.int .i64 0,.int .i64 pp,.int .i64 0,.int .i64 0,.int .i64 0,.int .i64 0,.string dd,.slice Option.none 0 0,.slice Option.none 0 0,.slice (some ⟨b,0,none⟩) 2 ic,.slice Option.none 0 0,.slice Option.none 0 0] 36)).alloc (.cells #[.string ⟨#[]⟩,.int .i64 0,.int .i64 0] 41))
  rw [hW0] at HX ⊢
  clear hW0
  have c3:=HX.out.1.cell 3 (.int .u8 5) rfl
  have c13:=HX.out.1.cell 13 (.slice (some ⟨b,0,none⟩) 2 ic) rfl
  rw [Nat.zero_add] at c3 c13
  have d5:=(HX.out.2.2.cell (p:=⟨b,5,none⟩) HBL.out (fun h=>h)).trans c5
  go_wp2_with fail
  refine (HD.out _).mono ?_
  rintro x w1 ⟨rfl,ho⟩
  have HR1:=hide (HX.out.1.more ho)
  have HE1:=hide (HX.out.2.1.more ho)
  have HO1:=hide (o2 HX.out.2.2 ho)
  clear ho c3 c13 d5 HX HD
  go_upto_region 4 with fail
  have HA:=hide (onlyA w1 (.cells #[.string e.key,.int .i64 e.page,.int .i64 e.slot] 41))
  have HV:=hide (Ev.new w1 e)
  obtain ⟨w2,hw2⟩:=exq (w1.alloc (.cells #[.string e.key,.int .i64 e.page,.int .i64 e.slot] 41))
  rw [hw2] at HA HV ⊢
  clear hw2
  obtain ⟨cb,hcb⟩:=exq (w1.heap.size)
  rw [hcb] at HV ⊢
  clear hcb
  have HR2:=hide (HR1.out.more HA.out)
  have HE2:=hide (HE1.out.more HA.out)
  have HO2:=hide (o2 HO1.out HA.out)
  clear HA HR1 HE1 HO1
  have c13:=HR2.out.cell 13 (.slice (some ⟨b,0,none⟩) 2 ic) rfl
  rw [Nat.zero_add] at c13
  have d7:=(HO2.out.cell (p:=⟨b,7,none⟩) HBL.out (fun h=>h)).trans c7
  obtain ⟨e0,e1,e2,f0,f1,f2,_⟩:=HE2.out
  obtain ⟨g0,g1,g2,_⟩:=HV.out
  go_upto_region 6 with fail
  go_region
  all_goals go_wp2_with fail
  all_goals refine bodyPost_ret (results_ev3 rfl rfl ((HE2.out.all e).more (Only.drew _ _))) rfl ?_
  all_goals exact ⟨rfl,o2 (HO2.out.trans (Only.three _ _ _ _ _) (fun i hi e=>by omega)) (Only.drew _ _)⟩
end Go.Proofs.YtipkeeobmihogaaGreat
