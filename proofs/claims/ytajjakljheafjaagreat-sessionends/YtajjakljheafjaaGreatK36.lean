/- Parts. -/
import Derived.Test.YtajjakljheafjaaGreatK35
set_option maxRecDepth 100000
namespace Go.Proofs.YtajjakljheafjaaGreat
open Go.RowKit
theorem slice_loF (W:World) (va:Option Addr) (n vc m:Nat) (h:m≤n):(Instr.slice 92 (.slice va n vc) (some (.int .i64 (m:Int))) none none).run Tryz.prog W=.ok (.slice (if vc=m then va else va.map (·.add (m * 3))) (n - m) (vc - m)) W:=by
  simp [Instr.slice,Instr.sliceBounds,Instr.sliceBound,go_sem]
  intro k
  omega
theorem Els.tailF {w:World} {B:Nat} {A A2:Option Addr} {e:En} {es:List En} (h:Els w B A (e :: es)) (hA:0 < es.length→A2=A.map (·.add (1 * 3))):Els w B A2 es:=by
  refine ⟨fun h0=>?_⟩
  obtain ⟨o,q,hc⟩:=h.at_ (by simp)
  refine ⟨o+1 * 3,by rw [hA h0,q,Option.map_some,add_at],fun j hj=>?_⟩
  have q:=hc (j+1) (by simpa using hj)
  have e2:o+1 * 3+j * 3=o+(j+1) * 3:=by omega
  rw [e2]
  simpa using q
def Pn.tl (P:Pn) (es:List En):Pn:={ P with ha:=if P.hc=1 then P.ha else P.ha.map (·.add (1 * 3)),hits:=es,hc:=P.hc - 1 }
def Pn.lat0 (P:Pn) (es:List En) (nw vis:Bool) (e:En) (o:Option Tu) (a:Option Addr) (c:Nat):Pn:=match o with | none=>P.tl es | some t=>(P.tl es).jdg nw vis e t a c
def Pn.lat (P:Pn) (es:List En) (nw vis:Bool) (e:En) (o:Option Tu) (a:Option Addr) (c:Nat):Pn:=if (P.lat0 es nw vis e o a c).wk=4 then P.lat0 es nw vis e o a c else (P.lat0 es nw vis e o a c).lko
theorem Pn.jdg_keeps (P:Pn) (nw vis:Bool) (e:En) (t:Tu) (a:Option Addr) (c:Nat) (h:P.wk=3):(P.jdg nw vis e t a c).wk=4∨((P.jdg nw vis e t a c).own=P.own∧(P.jdg nw vis e t a c).hits=P.hits):=by
  unfold Pn.jdg Pn.fl Pn.add Pn.fin Pn.addP Pn.over
  rw [h]
  simp only [show ¬ ((3:Int)=4) from by decide,if_false]
  repeat' split
  all_goals simp
theorem Pn.lat0_keeps (P:Pn) (es:List En) (nw vis:Bool) (e:En) (o:Option Tu) (a:Option Addr) (c:Nat) (h:P.wk=3):(P.lat0 es nw vis e o a c).wk=4∨((P.lat0 es nw vis e o a c).own=P.own∧(P.lat0 es nw vis e o a c).hits=es):=by
  cases o with
  | none=>exact .inr ⟨rfl,rfl⟩
  | some t=>exact Pn.jdg_keeps (P.tl es) nw vis e t a c h
set_option maxHeartbeats 1600000 in
theorem lookAt_any (w:World) (Z:Nat→Prop) (p:Nat) (P:Pn) (h:Pm w Z p P) (hown:I64 P.own) (hl:P.rows.length≤1000) (hwk:P.wk=3) (e:En) (es:List En) (hh:P.hits=e :: es) (hcap:P.hits.length≤P.hc) (hmax:es.length≤1000000) (V:Vv) (B:Pv) (fa:Option Addr) (fn fc:Nat) (o:Option Tu) (nw vis:Bool)
    (hK:∀ W,Only (fun k=>k=p) w W→Calls Tryz.prog 162 #[.agg B.ar,.int .i64 e.slot,.string e.key] W fun x w'=>x=.returned (outL o)∧Only (fun _=>False) W w')
    (hN:∀ t,o=some t→P.chg=true→∀ W,Only (fun k=>k=p) w W→Calls Tryz.prog 180 #[.agg V.ar,.agg #[.int .i64 t.xmin,.int .i64 t.xmax,.bool t.frozen,.string t.key,.string t.value]] W fun x w'=>x=.returned (.bool nw)∧Only (fun _=>False) W w')
    (hV:∀ t,o=some t→∀ W,Only (fun k=>k=p) w W→Calls Tryz.prog 181 #[.agg V.ar,.agg #[.int .i64 t.xmin,.int .i64 t.xmax,.bool t.frozen,.string t.key,.string t.value]] W fun x w'=>x=.returned (.bool vis)∧Only (fun _=>False) W w') :
    Calls Tryz.prog 135 #[.pointer (some ⟨p,0,none⟩),.agg V.ar,.agg B.ar,.slice fa fn fc] w (SQ w Z p (fun P' cs is=>is=false∧cs=Hr.none.cl∧∃ a c,P'=P.lat es nw vis e o a c)):=by
  have H3:=hide (St3.new w V B)
  have HH:=hide (h.more H3.out.only)
  have HK:=hide hK
  have HN:=hide hN
  have HV:=hide hV
  have HL:=hide hl
  have HOW:=hide hown
  have HWK:=hide hwk
  have HMX:=hide hmax
  have HZW:=hide h.zlt
  have HZP:Hid (Z p):=h.zp
  have HCA:=hide hcap
  have HHE:=hide hh
  have hn1:¬ P.hits.length < 1:=by rw [hh]; simp
  clear h hK hN hV hl hown hwk hmax hcap
  unfold Vv.ar Pv.ar at *
  obtain ⟨BH,hB,hBz⟩:=HH.out.hits
  rw [hh] at hB
  obtain ⟨oh,ho1,ho2⟩:=hB.at_ (by simp)
  have q0:=ho2 0 (by simp)
  obtain ⟨q0,q1,q2,_⟩:=q0
  simp only [List.getElem_cons_zero,Nat.zero_mul,Nat.add_zero] at q0 q1 q2
  have HEL:=hide hB
  have HBZ:=hide hBz
  have c17:=HH.out.cb.c 17 _ rfl
  have f17:=HH.out.cb.f 17
  have hsl:=fun W=>slice_loF W P.ha P.hits.length P.hc 1 (by rw [hh]; simp)
  clear hB hBz ho2 hh
  obtain ⟨A2,hA2⟩:=exq ((if P.hc=1 then P.ha else P.ha.map (·.add (1 * 3))))
  have HA2:=hide hA2
  have hsl2:∀ W,(Instr.slice 92 (.slice P.ha P.hits.length P.hc) (some (.int .i64 (1:Int))) none none).run Tryz.prog W=.ok (.slice A2 es.length (P.hc - 1)) W:=fun W=>by
    have:=hsl W
    rw [HA2.out,show P.hits.length - 1=es.length from by rw [HHE.out]; simp] at this
    exact this
  rw [ho1] at c17 hsl2
  clear ho1 hsl hA2
  go_enter Tryz.func135,Tryz.ntmps135
  go_upto_region 1 with fail
  obtain ⟨W0,hW0⟩:=exq (((w.alloc (.cells #[.int .i64 V.m,.int .i64 V.nx,.slice V.aA V.nA V.cA,.int .i64 V.ow,.slice V.aR V.nR V.cR,.int .i64 V.l,.int .i64 V.k,.int .i64 V.v,.int .i64 V.r,.string V.h,.slice V.aP V.nP V.cP] 42)).alloc (.cells #[.int .i64 B.a,.int .i64 B.k,.int .i64 B.v,.int .i64 B.r,.string B.h,.slice B.ao B.n B.cp] 37)).alloc (.cells Hr.none.cells 50))
  rw [hW0] at H3 HH HEL q0 q1 q2 c17 f17 ⊢
  clear hW0
  go_upto_region 2 with fail
  obtain ⟨W1,hW1⟩:=exq (W0.alloc (.cells #[.string e.key,.int .i64 e.page,.int .i64 e.slot] 89))
  have HO1:Hid (Only (fun _=>False) W0 W1):=by rw [← hW1]; exact onlyA _ _
  have HEB:Hid (Cb W1 W0.heap.size [.string e.key,.int .i64 e.page,.int .i64 e.slot]):=by rw [← hW1]; exact Cb.new W0 [.string e.key,.int .i64 e.page,.int .i64 e.slot] 89
  rw [hW1]
  clear hW1 q0 q1 q2
  have c17a:=((HO1.out.cell (p:=⟨p,17,none⟩) (HH.out.zlt p HH.out.zp) id).trans c17)
  have f17a:=((HO1.out.frozen (p:=⟨p,17,none⟩) (HH.out.zlt p HH.out.zp) id).trans f17)
  clear c17 f17
  go_upto_region 3 with fail
  obtain ⟨W2,hW2⟩:=exq (W1.setCell ⟨p,17,none⟩ (.slice A2 es.length (P.hc - 1)))
  have HO2:Hid (Only (fun k=>k=p) W1 W2):=by rw [← hW2]; exact Only.put _ _ _ _
  have HP2:Hid (Pm W2 Z p (P.tl es)):=by
    have h1:=HH.out.more HO1.out
    have hc:=h1.cb.set 17 (.slice A2 es.length (P.hc - 1))
    rw [hW2,← HA2.out] at hc
    have hr:=h1.rows.kept HO2.out (fun k hk q=>(h1.rz k hk).2 q)
    refine ⟨hc,h1.zp,fun b hb=>Nat.lt_of_lt_of_le (h1.zlt b hb) HO2.out.size,hr,h1.rz,BH,?_,fun q=>HBZ.out (by rw [HHE.out]; simp)⟩
    have hcap:=HCA.out
    rw [HHE.out] at hcap
    simp only [List.length_cons] at hcap
    refine ((HEL.out.more HO1.out).kept HO2.out (fun q=>(HBZ.out (by rw [HHE.out]; simp)).2.1)).tailF (fun q=>?_)
    show (if P.hc=1 then P.ha else P.ha.map (·.add (1 * 3)))=_
    rw [if_neg (by omega)]
  rw [hW2]
  clear hW2 c17a f17a hsl2
  have hsz3:Hid (w.heap.size+1+1 < W0.heap.size):=H3.out.rb.lt
  have HNP:Hid (p < w.heap.size):=HZW.out p HZP.out
  have HEB2:=hide (HEB.out.kept HO2.out (fun q=>by have:=HNP.out; have:=hsz3.out; omega))
  have H32:=hide (St3.kept (H3.out.more HO1.out) HO2.out (fun k q=>.inl (by rw [q]; exact HNP.out)))
  have HOW2:=hide (((H3.out.only.trans HO1.out (fun _ _ e=>e)).mono (fun _ _ e=>e.elim):Only (fun k=>k=p) w W1).trans HO2.out (fun _ _ e=>e))
  clear HH HEB HO1 HO2 H3 HEL HBZ HA2
  have HNRZ:Hid (¬ Z (w.heap.size+1+1)):=fun q=>by have:=HZW.out _ q; omega
  obtain ⟨u0,u1,u2,u3,u4,u5,_⟩:=H32.out.2.1.pag
  have e0:=HEB2.out.c 0 _ rfl
  have e2:=HEB2.out.c 2 _ rfl
  have HKW:=hide (HK.out W2 HOW2.out)
  clear HK
  cases o with
  | none=>
    unfold outL noT Tu.agg at HKW
    simp only [Option.getD_none,Option.isSome_none] at HKW
    go_wp2_with fail
    refine HKW.out.mono ?_
    rintro x w3 ⟨rfl,ho⟩
    have HP3:=hide (HP2.out.more ho)
    have HRB3:=hide (H32.out.2.2.more ho)
    have HO3:=hide (HOW2.out.trans ho (fun _ _ e=>e.elim))
    clear ho u0 u1 u2 u3 u4 u5 e0 e2 HKW
    go_upto_region 6 with fail
    obtain ⟨w5,hw5⟩:=exq (w3.alloc (.cells #[.int .i64 0,.int .i64 0,.bool false,.string ⟨#[]⟩,.string ⟨#[]⟩] 78))
    have HO5:Hid (Only Z w w5):=by rw [← hw5]; exact (HO3.out.mono (fun i _ e=>by rw [e]; exact HZP.out)).trans (onlyA w3 _) (fun _ _ e=>e.elim)
    have HP5':Hid (Pm w5 Z p (P.tl es)):=by rw [← hw5]; exact HP3.out.more (onlyA w3 _)
    have HRB:Hid (Cb w5 (w.heap.size+1+1) Hr.none.cl):=by rw [← hw5]; exact HRB3.out.more (onlyA w3 _)
    rw [hw5]
    clear hw5
    obtain ⟨Z5,hZ5⟩:=exq (Z)
    have HZ5:Hid (∀ b,b < w.heap.size→Z5 b→Z b):=fun _ _ q=>by rw [hZ5]; exact q
    have HNZ:Hid (¬ Z5 (w.heap.size+1+1)):=by rw [← hZ5]; exact HNRZ.out
    have HZ5P:Hid (Z5 p):=by rw [← hZ5]; exact HZP.out
    rw [hZ5] at HP5'
    clear hZ5
    obtain ⟨AA,hAA⟩:∃ a:Option Addr,a=none:=⟨_,rfl⟩
    obtain ⟨CC,hCC⟩:∃ a:Nat,a=0:=⟨_,rfl⟩
    clear hAA hCC
    have HKR:=hide (Pn.lat0_keeps P es nw vis e none AA CC HWK.out)
    obtain ⟨R,hR⟩:=exq (P.lat0 es nw vis e none AA CC)
    have HP5:Hid (Pm w5 Z5 p R):=by rw [← hR]; exact HP5'.out
    rw [hR] at HKR
    have HRE:=hide hR
    clear hR HP5'
    have HR5:Hid (Cb w5 (w.heap.size+1+1) Hr.none.cl):=HRB.out
    by_cases hw4:R.wk=4
    · have HW4:=hide hw4
      have hb4:(R.wk == 4)=true:=by simp [hw4]
      clear hw4
      go_wp2_with fail
      refine (wants_any w5 Z5 p R HP5.out 4).mono ?_
      rintro x w6 ⟨rfl,h6⟩
      obtain rfl:=h6.symm
      rw [hb4]
      go_wp2_with fail
      refine (nothing_any _).mono ?_
      rintro x w7 ⟨rfl,ho⟩
      have HP7:=hide (HP5.out.more ho)
      have HR7:=hide (HR5.out.more ho)
      have HO7:=hide (HO5.out.trans ho (fun _ _ e=>e.elim))
      clear ho
      unfold noRec
      go_wp2_with (refine wpList_put_cb rfl 50 (.tmp 8) (.tmp 51) rfl (w.heap.size+1+1) rfl Hr.none.cl Hr.none.cl rfl Tryz.sizeRecF rfl rfl HR7.out ?_; intro W9 HW9; go_frame)
      refine bodyPost_ret (results_cb16 rfl rfl HW9.out.1 rfl) rfl ?_
      refine ⟨Z5,R,Hr.none.cl,false,⟨rfl,rfl,rfl⟩,HZ5.out,HP7.out.late HW9.out.2 HNZ.out,HO7.out.trans HW9.out.2 (fun i hi e=>by omega),rfl,rfl,AA,CC,?_⟩
      rw [← HRE.out]
      unfold Pn.lat
      rw [HRE.out,if_pos HW4.out]
    · have HW4:=hide hw4
      have hb4:(R.wk == 4)=false:=by simpa using hw4
      clear hw4
      have HKP:=HKR.out.resolve_left HW4.out
      have HLK:=hide (lookOn_any w5 Z5 p R HP5.out (by rw [HKP.1]; exact HOW.out) (by rw [HKP.2]; exact HMX.out))
      clear HKP
      go_wp2_with fail
      refine (wants_any w5 Z5 p R HP5.out 4).mono ?_
      rintro x w6 ⟨rfl,h6⟩
      obtain rfl:=h6.symm
      rw [hb4]
      go_wp2_with fail
      refine HLK.out.mono ?_
      rintro x w6 ⟨rfl,hp,ho⟩
      have HP6:=hide hp
      have HO6:=hide (HO5.out.trans (ho.mono (fun i _ e=>(e.symm ▸ HZ5P.out:Z5 i))) (fun i hi e=>HZ5.out i hi e))
      have HR6:=hide (HR5.out.kept ho (fun q=>HNZ.out (by rw [q]; exact HZ5P.out)))
      clear hp ho HLK
      go_wp2_with fail
      refine (nothing_any _).mono ?_
      rintro x w7 ⟨rfl,ho⟩
      have HP7:=hide (HP6.out.more ho)
      have HR7:=hide (HR6.out.more ho)
      have HO7:=hide (HO6.out.trans ho (fun _ _ e=>e.elim))
      clear ho
      unfold noRec
      go_wp2_with (refine wpList_put_cb rfl 50 (.tmp 8) (.tmp 51) rfl (w.heap.size+1+1) rfl Hr.none.cl Hr.none.cl rfl Tryz.sizeRecF rfl rfl HR7.out ?_; intro W9 HW9; go_frame)
      refine bodyPost_ret (results_cb16 rfl rfl HW9.out.1 rfl) rfl ?_
      refine ⟨Z5,R.lko,Hr.none.cl,false,⟨rfl,rfl,rfl⟩,HZ5.out,HP7.out.late HW9.out.2 HNZ.out,HO7.out.trans HW9.out.2 (fun i hi e=>by omega),rfl,rfl,AA,CC,?_⟩
      rw [← HRE.out]
      unfold Pn.lat
      rw [HRE.out,if_neg HW4.out]
  | some t=>
    unfold outL Tu.agg at HKW
    simp only [Option.getD_some,Option.isSome_some] at HKW
    go_wp2_with fail
    refine HKW.out.mono ?_
    rintro x w3 ⟨rfl,ho⟩
    have HP3:=hide (HP2.out.more ho)
    have H31:=hide (H32.out.1.more ho)
    have H33:=hide (H32.out.2.2.more ho)
    have HEB3:=hide (HEB2.out.more ho)
    have HO3:=hide (HOW2.out.trans ho (fun _ _ e=>e.elim))
    clear ho u0 u1 u2 u3 u4 u5 e0 e2 HKW
    go_upto_region 5 with fail
    obtain ⟨w4,hw4⟩:=exq (w3.alloc (.cells #[.int .i64 t.xmin,.int .i64 t.xmax,.bool t.frozen,.string t.key,.string t.value] 78))
    have HX:Hid (Only (fun _=>False) w3 w4):=by rw [← hw4]; exact onlyA w3 _
    have HTB:Hid (Cb w4 w3.heap.size [.int .i64 t.xmin,.int .i64 t.xmax,.bool t.frozen,.string t.key,.string t.value]):=by rw [← hw4]; exact Cb.new w3 [.int .i64 t.xmin,.int .i64 t.xmax,.bool t.frozen,.string t.key,.string t.value] 78
    rw [hw4]
    clear hw4
    have HP4:=hide (HP3.out.more HX.out)
    have HVB:=hide (H31.out.more HX.out)
    have HRB4:=hide (H33.out.more HX.out)
    have HEB4:=hide (HEB3.out.more HX.out)
    have HO4:=hide (HO3.out.trans HX.out (fun _ _ e=>e.elim))
    clear HX HP3 H31 H33 HEB3 HO3
    have HJG:=hide (judge_any w4 Z p (P.tl es) HP4.out HL.out V e t nw vis (fun hc W ho=>HN.out t rfl hc W (HO4.out.trans ho (fun _ _ e=>e.elim))) (fun W ho=>HV.out t rfl W (HO4.out.trans ho (fun _ _ e=>e.elim))))
    have v0:=HVB.out.c 0 _ rfl
    have v1:=HVB.out.c 1 _ rfl
    have v2:=HVB.out.c 2 _ rfl
    have v3:=HVB.out.c 3 _ rfl
    have v4:=HVB.out.c 4 _ rfl
    have v5:=HVB.out.c 5 _ rfl
    have v6:=HVB.out.c 6 _ rfl
    have v7:=HVB.out.c 7 _ rfl
    have v8:=HVB.out.c 8 _ rfl
    have v9:=HVB.out.c 9 _ rfl
    have v10:=HVB.out.c 10 _ rfl
    have t0:=HTB.out.c 0 _ rfl
    have t1:=HTB.out.c 1 _ rfl
    have t2:=HTB.out.c 2 _ rfl
    have t3:=HTB.out.c 3 _ rfl
    have t4:=HTB.out.c 4 _ rfl
    have e0:=HEB4.out.c 0 _ rfl
    have e1:=HEB4.out.c 1 _ rfl
    have e2:=HEB4.out.c 2 _ rfl
    go_wp2_with fail
    refine HJG.out.mono ?_
    rintro x w5 ⟨rfl,AA,CC,Z5,hz5,hp5,ho5⟩
    clear v0 v1 v2 v3 v4 v5 v6 v7 v8 v9 v10 t0 t1 t2 t3 t4 e0 e1 e2 HJG
    have HO5:Hid (Only Z w w5):=(HO4.out.mono (fun i _ e=>by rw [e]; exact HZP.out)).trans ho5 (fun _ _ e=>e)
    have HRB:Hid (Cb w5 (w.heap.size+1+1) Hr.none.cl):=HRB4.out.kept ho5 HNRZ.out
    have HZ5:Hid (∀ b,b < w.heap.size→Z5 b→Z b):=fun b hb q=>hz5 b (Nat.lt_of_lt_of_le hb HO4.out.size) q
    have HNZ:Hid (¬ Z5 (w.heap.size+1+1)):=fun q=>HNRZ.out (hz5 _ HRB4.out.lt q)
    have HZ5P:Hid (Z5 p):=hp5.zp
    have HKR:=hide (Pn.lat0_keeps P es nw vis e (some t) AA CC HWK.out)
    obtain ⟨R,hR⟩:=exq (P.lat0 es nw vis e (some t) AA CC)
    have HP5:Hid (Pm w5 Z5 p R):=by rw [← hR]; exact hp5
    rw [hR] at HKR
    have HRE:=hide hR
    clear hR hp5 hz5 ho5 HP4
    have HR5:Hid (Cb w5 (w.heap.size+1+1) Hr.none.cl):=HRB.out
    by_cases hw4:R.wk=4
    · have HW4:=hide hw4
      have hb4:(R.wk == 4)=true:=by simp [hw4]
      clear hw4
      go_wp2_with fail
      refine (wants_any w5 Z5 p R HP5.out 4).mono ?_
      rintro x w6 ⟨rfl,h6⟩
      obtain rfl:=h6.symm
      rw [hb4]
      go_wp2_with fail
      refine (nothing_any _).mono ?_
      rintro x w7 ⟨rfl,ho⟩
      have HP7:=hide (HP5.out.more ho)
      have HR7:=hide (HR5.out.more ho)
      have HO7:=hide (HO5.out.trans ho (fun _ _ e=>e.elim))
      clear ho
      unfold noRec
      go_wp2_with (refine wpList_put_cb rfl 50 (.tmp 8) (.tmp 51) rfl (w.heap.size+1+1) rfl Hr.none.cl Hr.none.cl rfl Tryz.sizeRecF rfl rfl HR7.out ?_; intro W9 HW9; go_frame)
      refine bodyPost_ret (results_cb16 rfl rfl HW9.out.1 rfl) rfl ?_
      refine ⟨Z5,R,Hr.none.cl,false,⟨rfl,rfl,rfl⟩,HZ5.out,HP7.out.late HW9.out.2 HNZ.out,HO7.out.trans HW9.out.2 (fun i hi e=>by omega),rfl,rfl,AA,CC,?_⟩
      rw [← HRE.out]
      unfold Pn.lat
      rw [HRE.out,if_pos HW4.out]
    · have HW4:=hide hw4
      have hb4:(R.wk == 4)=false:=by simpa using hw4
      clear hw4
      have HKP:=HKR.out.resolve_left HW4.out
      have HLK:=hide (lookOn_any w5 Z5 p R HP5.out (by rw [HKP.1]; exact HOW.out) (by rw [HKP.2]; exact HMX.out))
      clear HKP
      go_wp2_with fail
      refine (wants_any w5 Z5 p R HP5.out 4).mono ?_
      rintro x w6 ⟨rfl,h6⟩
      obtain rfl:=h6.symm
      rw [hb4]
      go_wp2_with fail
      refine HLK.out.mono ?_
      rintro x w6 ⟨rfl,hp,ho⟩
      have HP6:=hide hp
      have HO6:=hide (HO5.out.trans (ho.mono (fun i _ e=>(e.symm ▸ HZ5P.out:Z5 i))) (fun i hi e=>HZ5.out i hi e))
      have HR6:=hide (HR5.out.kept ho (fun q=>HNZ.out (by rw [q]; exact HZ5P.out)))
      clear hp ho HLK
      go_wp2_with fail
      refine (nothing_any _).mono ?_
      rintro x w7 ⟨rfl,ho⟩
      have HP7:=hide (HP6.out.more ho)
      have HR7:=hide (HR6.out.more ho)
      have HO7:=hide (HO6.out.trans ho (fun _ _ e=>e.elim))
      clear ho
      unfold noRec
      go_wp2_with (refine wpList_put_cb rfl 50 (.tmp 8) (.tmp 51) rfl (w.heap.size+1+1) rfl Hr.none.cl Hr.none.cl rfl Tryz.sizeRecF rfl rfl HR7.out ?_; intro W9 HW9; go_frame)
      refine bodyPost_ret (results_cb16 rfl rfl HW9.out.1 rfl) rfl ?_
      refine ⟨Z5,R.lko,Hr.none.cl,false,⟨rfl,rfl,rfl⟩,HZ5.out,HP7.out.late HW9.out.2 HNZ.out,HO7.out.trans HW9.out.2 (fun i hi e=>by omega),rfl,rfl,AA,CC,?_⟩
      rw [← HRE.out]
      unfold Pn.lat
      rw [HRE.out,if_neg HW4.out]
end Go.Proofs.YtajjakljheafjaaGreat
