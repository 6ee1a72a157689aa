/- Parts. -/
import Derived.Test.YtajjakljheafjaaGreatK32
set_option maxRecDepth 100000
namespace Go.Proofs.YtajjakljheafjaaGreat
open Go.RowKit
structure Mst (w W:World) (a k v r:Int) (h:ByteArray) (ao:Option Addr) (n cp:Nat):Prop where
  pg:Pag W w.heap.size (.int .i64 a) (.int .i64 k) (.int .i64 v) (.int .i64 r) (.string h) (.slice ao n cp)
  res:Hb W (w.heap.size+1) Hr.none
  only:Only (fun _=>False) w W
theorem Mst.new (w:World) (a k v r:Int) (h:ByteArray) (ao:Option Addr) (n cp:Nat):Mst w ((w.alloc (.cells #[.int .i64 a,.int .i64 k,.int .i64 v,.int .i64 r,.string h,.slice ao n cp] 37)).alloc (.cells Hr.none.cells 50)) a k v r h ao n cp:=by
  refine ⟨(Pag.new w _ _ _ _ _ _).more (onlyA _ _),?_,o2 (onlyA _ _) (onlyA _ _)⟩
  have:=Hb.new (w.alloc (.cells #[.int .i64 a,.int .i64 k,.int .i64 v,.int .i64 r,.string h,.slice ao n cp] 37)) Hr.none
  rw [World.size_alloc] at this
  exact this
theorem Mst.more {w W W':World} {a k v r:Int} {h:ByteArray} {ao:Option Addr} {n cp:Nat} (H:Mst w W a k v r h ao n cp) (ho:Only (fun _=>False) W W'):Mst w W' a k v r h ao n cp:=⟨H.pg.more ho,H.res.more ho,o2 H.only ho⟩
set_option maxHeartbeats 1600000 in
theorem mark_ok (w:World) (a v r:Int) (h:ByteArray) (B cp:Nat) (ao:Option Addr) (l:List ByteArray) (j:Nat) (t:Tu) (g own:Int) (hS:Strs w B ao l) (hF:Fit ao l.length cp) (hh:h.size≤140737488355328) (hj:j < l.length) (hd:decT (bl l[j])=some t) (h1:1≤own) (h2:own≤1024) (h3:¬ own=t.xmax)
    (hf:fitL h (putL l j (str (Tu.enc ⟨t.xmin,own,t.frozen,t.key,t.value⟩)))=true) :
    Calls Tryz.prog 183 #[pv a 2 v r h ao l.length cp,.int .i64 g,.int .i64 (j:Int),.int .i64 own] w fun e w'=>e=.returned (outI ⟨2,own,g,(j:Int),t.xmax,own,⟨#[]⟩⟩ 0)∧Only (fun _=>False) w w':=by
  have hok:=(enc_decT hd).1
  have hok':=Tu.ok_iff.1 hok
  have hokn:Tu.ok ⟨t.xmin,own,t.frozen,t.key,t.value⟩=true:=Tu.ok_iff.2 (by simp only; omega)
  have e1:Tu.err ⟨t.xmin,own,t.frozen,t.key,t.value⟩=0:=by unfold Tu.err; rw [hokn]; rfl
  have e2:Tu.out ⟨t.xmin,own,t.frozen,t.key,t.value⟩=Tu.enc ⟨t.xmin,own,t.frozen,t.key,t.value⟩:=by unfold Tu.out; rw [hokn]; rfl
  have HM0:=hide (Mst.new w a 2 v r h ao l.length cp)
  have HVE:Hid (∀ W,Only (fun _=>False) w W→Calls Tryz.prog 179 #[.agg #[.int .i64 a,.int .i64 2,.int .i64 v,.int .i64 r,.string h,.slice ao l.length cp],.int .i64 (j:Int)] W fun e w'=>e=.returned (.tuple #[.agg #[.int .i64 t.xmin,.int .i64 t.xmax,.bool t.frozen,.string t.key,.string t.value],.int .i64 0])∧Only (fun _=>False) W w'):=fun W ho=>by
    have:=version_any W a 2 v r h B cp ao l (j:Int) (hS.more ho)
    rw [verL_at hj,hd] at this
    exact this
  have HEN:Hid (∀ W,Calls Tryz.prog 194 #[.agg #[.int .i64 t.xmin,.int .i64 t.xmax,.bool t.frozen,.string t.key,.string t.value],.int .i64 own] W fun e w'=>e=.returned (.tuple #[.string (str (Tu.enc ⟨t.xmin,own,t.frozen,t.key,t.value⟩)),.bool true])∧Only (fun _=>False) W w'):=fun W=>by
    have:=ended_ok W t own (by omega) h3 (by omega) (by omega)
    rw [e1,e2] at this
    exact this
  have HSW:Hid (∀ W,Only (fun _=>False) w W→Calls Tryz.prog 107 #[.agg #[.int .i64 a,.int .i64 2,.int .i64 v,.int .i64 r,.string h,.slice ao l.length cp],.int .i64 (j:Int),.string (str (Tu.enc ⟨t.xmin,own,t.frozen,t.key,t.value⟩))] W fun e w'=>(∃ V,e=.returned (.tuple #[.int .i64 V,.int .i64 0]))∧Only (fun _=>False) W w'):=fun W ho=>by
    have:=sizeWith_any W a 2 v r h B cp ao l j (str (Tu.enc ⟨t.xmin,own,t.frozen,t.key,t.value⟩)) (hS.more ho) hF hh (by rw [str_size,enc_lenT hokn]; simp only; omega) (by omega)
    rw [szE_fit hf] at this
    refine this.mono ?_
    rintro e w' ⟨rfl,ho⟩
    exact ⟨⟨_,rfl⟩,ho⟩
  obtain ⟨S,hSS⟩:=exq (str (Tu.enc ⟨t.xmin,own,t.frozen,t.key,t.value⟩))
  rw [hSS] at HEN HSW
  obtain ⟨xa,xb,xc,xd,xe⟩:=t
  simp only at HVE HEN ⊢
  clear hS hF hd hf hok hok' hokn e1 e2 hSS h3
  go_enter Tryz.func183,Tryz.ntmps183
  go_upto_region 1 with fail
  obtain ⟨W0,hW0⟩:=exq ((w.alloc (.cells #[.int .i64 a,.int .i64 2,.int .i64 v,.int .i64 r,.string h,.slice ao l.length cp] 37)).alloc (.cells Hr.none.cells 50))
  rw [hW0] at HM0 ⊢
  clear hW0
  obtain ⟨p0,p1,p2,p3,p4,p5,_⟩:=HM0.out.pg
  go_wp2_with fail
  refine (HVE.out _ HM0.out.only).mono ?_
  rintro e w1 ⟨rfl,ho1⟩
  have HM1:=hide ((HM0.out.more ho1).more (onlyA w1 (.cells #[.int .i64 xa,.int .i64 xb,.bool xc,.string xd,.string xe] 78)))
  have HT1:=hide (Tb.new w1 ⟨xa,xb,xc,xd,xe⟩)
  clear ho1 p0 p1 p2 p3 p4 p5
  go_upto_region 2 with fail
  obtain ⟨b,hb⟩:=exq (w1.heap.size)
  obtain ⟨w2,hw2⟩:=exq (w1.alloc (.cells #[.int .i64 xa,.int .i64 xb,.bool xc,.string xd,.string xe] 78))
  rw [hw2] at HM1 ⊢
  have HT2:Hid (Tb w2 b ⟨xa,xb,xc,xd,xe⟩):=by rw [← hw2,← hb]; exact HT1.out
  rw [hb]
  clear hw2 hb HT1
  obtain ⟨t0,t1,t2,t3,t4,_⟩:=HT2.out
  simp only at t0 t1 t2 t3 t4
  go_wp2_with fail
  refine (HEN.out _).mono ?_
  rintro e w3 ⟨rfl,ho3⟩
  have HM3:=hide (HM1.out.more ho3)
  have HT3:=hide (HT2.out.more ho3)
  clear ho3 t0 t1 t2 t3 t4
  obtain ⟨p0,p1,p2,p3,p4,p5,_⟩:=HM3.out.pg
  go_wp2_with fail
  refine (HSW.out _ HM3.out.only).mono ?_
  rintro e w4 ⟨⟨V,rfl⟩,ho4⟩
  have HM4:=hide (HM3.out.more ho4)
  have t1:=(HT3.out.more ho4).c1
  simp only at t1
  clear ho4 p0 p1 p2 p3 p4 p5
  go_upto_region 10 with fail
  go_wp2_with (refine wpList_build_mark rfl (.tmp 46) (.tmp 47) (.tmp 48) (.tmp 50) (.tmp 51) rfl own g (j:Int) xb own rfl rfl rfl rfl rfl ?_; go_frame; refine wpList_put_hr rfl (.tmp 8) (.tmp 52) rfl (w.heap.size+1) rfl Hr.none ⟨2,own,g,(j:Int),xb,own,⟨#[]⟩⟩ rfl HM4.out.res ?_; intro W9 HW9; go_frame)
  refine bodyPost_ret (results_hr rfl rfl HW9.out.at_) rfl ?_
  exact ⟨rfl,HM4.out.only.trans HW9.out.only (fun i hi e=>by omega)⟩
def Pn.ent (P:Pn) (e:En) (lv:Int) (s:ByteArray):Pn:={ P with item:=s }.go e lv 108
set_option maxHeartbeats 800000 in
theorem enter_p (w:World) (Z:Nat→Prop) (p:Nat) (P:Pn) (h:Pm w Z p P) (e:En) (lv:Int) (s:ByteArray) :
    Calls Tryz.prog 61 #[.pointer (some ⟨p,0,none⟩),.agg #[.string e.key,.int .i64 e.page,.int .i64 e.slot],.int .i64 lv,.string s] w fun x w'=>x=.returned (.tuple #[])∧Pm w' Z p (P.ent e lv s)∧Only (fun k=>k=p) w w':=by
  have hmf:∀ (fn:Fn) (first cap:Array Value) (w:World),(Instr.makeFunc fn first cap).run Tryz.prog w=.ok (.func fn first cap) w:=fun _ _ _ _=>rfl
  have HH:=hide (h.more (onlyA w (.cells #[.string e.key,.int .i64 e.page,.int .i64 e.slot] 89)))
  have HA:=hide (onlyA w (.cells #[.string e.key,.int .i64 e.page,.int .i64 e.slot] 89))
  have HX:Hid (∃ W,w.alloc (.cells #[.string e.key,.int .i64 e.page,.int .i64 e.slot] 89)=W∧Cb W w.heap.size [.string e.key,.int .i64 e.page,.int .i64 e.slot]):=⟨_,rfl,Cb.new w [.string e.key,.int .i64 e.page,.int .i64 e.slot] 89⟩
  have HNP:Hid (¬ w.heap.size=p):=fun q=>by have:=h.zlt p h.zp; omega
  clear h
  go_enter Tryz.func61,Tryz.ntmps61
  go_upto_region 1 with fail
  obtain ⟨W,hW,hd⟩:=HX.out
  have HD:=hide hd
  rw [hW] at HH HA ⊢
  clear hW HX hd
  have c23:=HH.out.cb.c 23 _ rfl
  have f23:=HH.out.cb.f 23
  go_upto_region 2 with fail
  have HO:=Only.put W p 23 (.string s)
  have HP:=hide (HH.out.mod (Q:={ P with item:=s }) HO (HH.out.cb.set 23 _) ⟨rfl,rfl,rfl⟩ ⟨rfl,rfl⟩)
  have HD1:=hide (HD.out.kept HO HNP.out)
  have HO1:=hide (Op.none HA.out HO)
  clear HO HH c23 f23 HD HA
  obtain ⟨W1,hW1⟩:=exq (W.setCell ⟨p,23,none⟩ (.string s))
  rw [hW1] at HP HD1 HO1 ⊢
  clear hW1
  have d0:=HD1.out.c 0 _ rfl
  have d1:=HD1.out.c 1 _ rfl
  have d2:=HD1.out.c 2 _ rfl
  go_wp2_with fail
  refine (goDown_any _ Z p _ HP.out e lv 108).mono ?_
  rintro x w1 ⟨rfl,hp,ho⟩
  have HP1:=hide hp
  have HO2:=hide (Op.two HO1.out ho)
  clear hp ho HP d0 d1 d2
  go_wp2_with fail
  refine bodyPost_end (results_none rfl _ _ _) rfl ?_
  exact ⟨rfl,HP1.out,HO2.out⟩
abbrev Br.cellsX (r:Br) (x0:Int):Array Value :=
  #[.int .i64 0,.int .i64 0,.int .i64 0,.int .u8 r.kind,.int .i64 x0,.int .i64 r.page,.int .i64 0,.int .i64 0,.int .i64 0,.int .i64 0,.string r.data,
    .slice Option.none 0 0,.slice Option.none 0 0,.slice r.ia r.il r.ic,.slice Option.none 0 0,.slice Option.none 0 0]
def Br.clX (r:Br) (x0:Int):List Value:=(r.cellsX x0).toList
theorem ab_newX (w:World) (r:Br) (x0:Int):Rg ((w.alloc (.cells (r.cellsX x0) 50)).alloc (.cells #[.string ⟨#[]⟩,.int .i64 0,.int .i64 0] 89)) w.heap.size 0 (r.clX x0)∧Ev ((w.alloc (.cells (r.cellsX x0) 50)).alloc (.cells #[.string ⟨#[]⟩,.int .i64 0,.int .i64 0] 89)) (w.heap.size+1) noE∧Only (fun _=>False) w ((w.alloc (.cells (r.cellsX x0) 50)).alloc (.cells #[.string ⟨#[]⟩,.int .i64 0,.int .i64 0] 89)):=by
  refine ⟨(Rg.new w (r.cellsX x0) 50).more (onlyA _ _),?_,o2 (onlyA _ _) (onlyA _ _)⟩
  have e1:=Ev.zero (w.alloc (.cells (r.cellsX x0) 50))
  rw [World.size_alloc] at e1
  exact e1
set_option maxHeartbeats 1600000 in
theorem above_noX (w:World) (r:Br) (x0:Int) (h:¬ r.kind=5∨¬ (r.il:Int)=2) :
    Calls Tryz.prog 175 #[.agg (r.cellsX x0)] w fun x w'=>x=.returned (.tuple #[noE.agg,.int .i64 0,.bool false])∧Only (fun _=>False) w w':=by
  have HX:=hide (ab_newX w r x0)
  obtain ⟨k,pp,dd,ia,il,ic⟩:=r
  simp only [] at h
  unfold En.agg
  unfold Br.cellsX at HX ⊢
  simp only [] at HX ⊢
  go_enter Tryz.func175,Tryz.ntmps175
  go_upto_region 1 with fail
  obtain ⟨W0,hW0⟩:=exq ((w.alloc (.cells #[.int .i64 0,.int .i64 0,.int .i64 0,.int .u8 k,.int .i64 x0,.int .i64 pp,.int .i64 0,.int .i64 0,.int .i64 0,.int .i64 0,.string dd,.slice Option.none 0 0,.slice Option.none 0 0,.slice ia il ic,.slice Option.none 0 0,.slice Option.none 0 0] 50)).alloc (.cells #[.string ⟨#[]⟩,.int .i64 0,.int .i64 0] 89))
  rw [hW0] at HX ⊢
  clear hW0
  have c3:=HX.out.1.cell 3 (.int .u8 k) rfl
  have c13:=HX.out.1.cell 13 (.slice ia il ic) rfl
  rw [Nat.zero_add] at c3 c13
  obtain ⟨e0,e1,e2,f0,f1,f2,_⟩:=HX.out.2.1
  by_cases hk:k=5
  · have hi:¬ (il:Int)=2:=by rcases h with q | q; exact absurd hk q; exact q
    have hi2:((il:Int) == 2)=false:=by simpa using hi
    subst hk
    clear h hi
    go_wp2_with fail
    refine bodyPost_ret (results_ev3 rfl rfl (HX.out.2.1.all noE)) rfl ?_
    exact ⟨rfl,HX.out.2.2.trans (Only.three _ _ _ _ _) (fun i hi e=>by omega)⟩
  · have hk2:(k == 5)=false:=by simpa using hk
    clear h
    go_wp2_with fail
    refine bodyPost_ret (results_ev3 rfl rfl (HX.out.2.1.all noE)) rfl ?_
    exact ⟨rfl,HX.out.2.2.trans (Only.three _ _ _ _ _) (fun i hi e=>by omega)⟩
set_option maxHeartbeats 3200000 in
theorem above_twoX (w:World) (x0:Int) (pp:Int) (dd:ByteArray) (b ic:Nat) (p q:Int) (z1 z2:Pz) (C3:List Value) (e:En) (hr:Rg w b 0 (imc p z1++imc q z2++C3)) (hh:z1.p.high=e.enc) (he:e.ok=true) :
    Calls Tryz.prog 175 #[.agg (Br.cellsX ⟨5,pp,dd,some ⟨b,0,none⟩,2,ic⟩ x0)] w fun x w'=>x=.returned (.tuple #[e.agg,.int .i64 q,.bool true])∧Only (fun _=>False) w w':=by
  have HX:=hide (ab_newX w ⟨5,pp,dd,some ⟨b,0,none⟩,2,ic⟩ x0)
  have HD:Hid (∀ W,Calls Tryz.prog 99 #[.string e.enc] W fun x w'=>x=.returned (.tuple #[.agg #[.string e.key,.int .i64 e.page,.int .i64 e.slot],.int .i64 0])∧Only (fun _=>False) W w'):=fun W=>by
    have h:=decode_any e.enc W
    rw [show decE (bl e.enc)=some e from decE_lay he] at h
    exact h
  have HR:=hide hr
  have c5:=hr.cell 5 (.string z1.p.high) rfl
  have c7:=hr.cell 7 (.int .i64 q) rfl
  rw [Nat.zero_add] at c5 c7
  rw [hh] at c5
  have HBL:=hide hr.lt
  clear hr hh he
  obtain ⟨S,hS⟩:=exq (e.enc)
  rw [hS] at c5 HD
  clear hS
  unfold En.agg
  unfold Br.cellsX at HX ⊢
  simp only [] at HX ⊢
  go_enter Tryz.func175,Tryz.ntmps175
  go_upto_region 1 with fail
  obtain ⟨W0,hW0⟩:=exq ((w.alloc (.cells #[.int .i64 0,.int .i64 0,.int .i64 0,.int .u8 5,.int .i64 x0,.int .i64 pp,.int .i64 0,.int .i64 0,.int .i64 0,.int .i64 0,.string dd,.slice Option.none 0 0,.slice Option.none 0 0,.slice (some ⟨b,0,none⟩) 2 ic,.slice Option.none 0 0,.slice Option.none 0 0] 50)).alloc (.cells #[.string ⟨#[]⟩,.int .i64 0,.int .i64 0] 89))
  rw [hW0] at HX ⊢
  clear hW0
  have c3:=HX.out.1.cell 3 (.int .u8 5) rfl
  have c13:=HX.out.1.cell 13 (.slice (some ⟨b,0,none⟩) 2 ic) rfl
  rw [Nat.zero_add] at c3 c13
  have d5:=(HX.out.2.2.cell (p:=⟨b,5,none⟩) HBL.out (fun h=>h)).trans c5
  go_wp2_with fail
  refine (HD.out _).mono ?_
  rintro x w1 ⟨rfl,ho⟩
  have HR1:=hide (HX.out.1.more ho)
  have HE1:=hide (HX.out.2.1.more ho)
  have HO1:=hide (o2 HX.out.2.2 ho)
  clear ho c3 c13 d5 HX HD
  go_upto_region 4 with fail
  have HA:=hide (onlyA w1 (.cells #[.string e.key,.int .i64 e.page,.int .i64 e.slot] 89))
  have HV:=hide (Ev.new w1 e)
  obtain ⟨w2,hw2⟩:=exq (w1.alloc (.cells #[.string e.key,.int .i64 e.page,.int .i64 e.slot] 89))
  rw [hw2] at HA HV ⊢
  clear hw2
  obtain ⟨cb,hcb⟩:=exq (w1.heap.size)
  rw [hcb] at HV ⊢
  clear hcb
  have HR2:=hide (HR1.out.more HA.out)
  have HE2:=hide (HE1.out.more HA.out)
  have HO2:=hide (o2 HO1.out HA.out)
  clear HA HR1 HE1 HO1
  have c13:=HR2.out.cell 13 (.slice (some ⟨b,0,none⟩) 2 ic) rfl
  rw [Nat.zero_add] at c13
  have d7:=(HO2.out.cell (p:=⟨b,7,none⟩) HBL.out (fun h=>h)).trans c7
  obtain ⟨e0,e1,e2,f0,f1,f2,_⟩:=HE2.out
  obtain ⟨g0,g1,g2,_⟩:=HV.out
  go_upto_region 6 with fail
  go_region
  all_goals go_wp2_with fail
  all_goals refine bodyPost_ret (results_ev3 rfl rfl ((HE2.out.all e).more (Only.drew _ _))) rfl ?_
  all_goals exact ⟨rfl,o2 (HO2.out.trans (Only.three _ _ _ _ _) (fun i hi e=>by omega)) (Only.drew _ _)⟩
theorem sp_zero (W:World) (p:Nat) (u0 u1 u2 u3 u4 u5 v0 v1 v2 v3 v4 v5:Value) (e:En) (h1:Pag W (p+1) u0 u1 u2 u3 u4 u5) (h2:Pag W (p+1+1) v0 v1 v2 v3 v4 v5) (h3:Ev W (p+1+1+1) e) :
    Pag (((((((((((((((W.setCell ⟨p+1,0,none⟩ (.int .i64 0)).setCell ⟨p+1,1,none⟩ (.int .i64 0)).setCell ⟨p+1,2,none⟩ (.int .i64 0)).setCell ⟨p+1,3,none⟩ (.int .i64 0)).setCell ⟨p+1,4,none⟩ (.string ⟨#[]⟩)).setCell ⟨p+1,5,none⟩ (.slice none 0 0)).setCell ⟨p+1+1,0,none⟩ (.int .i64 0)).setCell ⟨p+1+1,1,none⟩ (.int .i64 0)).setCell ⟨p+1+1,2,none⟩ (.int .i64 0)).setCell ⟨p+1+1,3,none⟩ (.int .i64 0)).setCell ⟨p+1+1,4,none⟩ (.string ⟨#[]⟩)).setCell ⟨p+1+1,5,none⟩ (.slice none 0 0)).setCell ⟨p+1+1+1,0,none⟩ (.string ⟨#[]⟩)).setCell ⟨p+1+1+1,1,none⟩ (.int .i64 0)).setCell ⟨p+1+1+1,2,none⟩ (.int .i64 0)) (p+1) (.int .i64 0) (.int .i64 0) (.int .i64 0) (.int .i64 0) (.string ⟨#[]⟩) (.slice none 0 0)∧Pag (((((((((((((((W.setCell ⟨p+1,0,none⟩ (.int .i64 0)).setCell ⟨p+1,1,none⟩ (.int .i64 0)).setCell ⟨p+1,2,none⟩ (.int .i64 0)).setCell ⟨p+1,3,none⟩ (.int .i64 0)).setCell ⟨p+1,4,none⟩ (.string ⟨#[]⟩)).setCell ⟨p+1,5,none⟩ (.slice none 0 0)).setCell ⟨p+1+1,0,none⟩ (.int .i64 0)).setCell ⟨p+1+1,1,none⟩ (.int .i64 0)).setCell ⟨p+1+1,2,none⟩ (.int .i64 0)).setCell ⟨p+1+1,3,none⟩ (.int .i64 0)).setCell ⟨p+1+1,4,none⟩ (.string ⟨#[]⟩)).setCell ⟨p+1+1,5,none⟩ (.slice none 0 0)).setCell ⟨p+1+1+1,0,none⟩ (.string ⟨#[]⟩)).setCell ⟨p+1+1+1,1,none⟩ (.int .i64 0)).setCell ⟨p+1+1+1,2,none⟩ (.int .i64 0)) (p+1+1) (.int .i64 0) (.int .i64 0) (.int .i64 0) (.int .i64 0) (.string ⟨#[]⟩) (.slice none 0 0)∧Ev (((((((((((((((W.setCell ⟨p+1,0,none⟩ (.int .i64 0)).setCell ⟨p+1,1,none⟩ (.int .i64 0)).setCell ⟨p+1,2,none⟩ (.int .i64 0)).setCell ⟨p+1,3,none⟩ (.int .i64 0)).setCell ⟨p+1,4,none⟩ (.string ⟨#[]⟩)).setCell ⟨p+1,5,none⟩ (.slice none 0 0)).setCell ⟨p+1+1,0,none⟩ (.int .i64 0)).setCell ⟨p+1+1,1,none⟩ (.int .i64 0)).setCell ⟨p+1+1,2,none⟩ (.int .i64 0)).setCell ⟨p+1+1,3,none⟩ (.int .i64 0)).setCell ⟨p+1+1,4,none⟩ (.string ⟨#[]⟩)).setCell ⟨p+1+1,5,none⟩ (.slice none 0 0)).setCell ⟨p+1+1+1,0,none⟩ (.string ⟨#[]⟩)).setCell ⟨p+1+1+1,1,none⟩ (.int .i64 0)).setCell ⟨p+1+1+1,2,none⟩ (.int .i64 0)) (p+1+1+1) noE∧Only (fun k=>p < k) W (((((((((((((((W.setCell ⟨p+1,0,none⟩ (.int .i64 0)).setCell ⟨p+1,1,none⟩ (.int .i64 0)).setCell ⟨p+1,2,none⟩ (.int .i64 0)).setCell ⟨p+1,3,none⟩ (.int .i64 0)).setCell ⟨p+1,4,none⟩ (.string ⟨#[]⟩)).setCell ⟨p+1,5,none⟩ (.slice none 0 0)).setCell ⟨p+1+1,0,none⟩ (.int .i64 0)).setCell ⟨p+1+1,1,none⟩ (.int .i64 0)).setCell ⟨p+1+1,2,none⟩ (.int .i64 0)).setCell ⟨p+1+1,3,none⟩ (.int .i64 0)).setCell ⟨p+1+1,4,none⟩ (.string ⟨#[]⟩)).setCell ⟨p+1+1,5,none⟩ (.slice none 0 0)).setCell ⟨p+1+1+1,0,none⟩ (.string ⟨#[]⟩)).setCell ⟨p+1+1+1,1,none⟩ (.int .i64 0)).setCell ⟨p+1+1+1,2,none⟩ (.int .i64 0)):=by
  have s1:=Only.six W (p+1) (.int .i64 0) (.int .i64 0) (.int .i64 0) (.int .i64 0) (.string ⟨#[]⟩) (.slice none 0 0)
  have s2:=Only.six ((((((W.setCell ⟨p+1,0,none⟩ (.int .i64 0)).setCell ⟨p+1,1,none⟩ (.int .i64 0)).setCell ⟨p+1,2,none⟩ (.int .i64 0)).setCell ⟨p+1,3,none⟩ (.int .i64 0)).setCell ⟨p+1,4,none⟩ (.string ⟨#[]⟩)).setCell ⟨p+1,5,none⟩ (.slice none 0 0)) (p+1+1) (.int .i64 0) (.int .i64 0) (.int .i64 0) (.int .i64 0) (.string ⟨#[]⟩) (.slice none 0 0)
  have s3:=Only.three ((((((((((((W.setCell ⟨p+1,0,none⟩ (.int .i64 0)).setCell ⟨p+1,1,none⟩ (.int .i64 0)).setCell ⟨p+1,2,none⟩ (.int .i64 0)).setCell ⟨p+1,3,none⟩ (.int .i64 0)).setCell ⟨p+1,4,none⟩ (.string ⟨#[]⟩)).setCell ⟨p+1,5,none⟩ (.slice none 0 0)).setCell ⟨p+1+1,0,none⟩ (.int .i64 0)).setCell ⟨p+1+1,1,none⟩ (.int .i64 0)).setCell ⟨p+1+1,2,none⟩ (.int .i64 0)).setCell ⟨p+1+1,3,none⟩ (.int .i64 0)).setCell ⟨p+1+1,4,none⟩ (.string ⟨#[]⟩)).setCell ⟨p+1+1,5,none⟩ (.slice none 0 0)) (p+1+1+1) (.string ⟨#[]⟩) (.int .i64 0) (.int .i64 0)
  exact ⟨((Pag.six h1 (.int .i64 0) (.int .i64 0) (.int .i64 0) (.int .i64 0) (.string ⟨#[]⟩) (.slice none 0 0)).kept s2 (by omega)).kept s3 (by omega),(Pag.six (h2.kept s1 (by omega)) (.int .i64 0) (.int .i64 0) (.int .i64 0) (.int .i64 0) (.string ⟨#[]⟩) (.slice none 0 0)).kept s3 (by omega),((h3.kept s1 (by omega)).kept s2 (by omega)).all noE,((s1.mono (fun k _ h=>by omega)).trans (s2.mono (fun k _ h=>by omega)) (fun _ _ h=>h)).trans (s3.mono (fun k _ h=>by omega)) (fun _ _ h=>h)⟩
set_option maxHeartbeats 3200000 in
theorem msplit_no (w:World) (a:Int) (X:Nd) (c:Int) (B cp:Nat) (ao:Option Addr) (hP:Nm w X B ao) (hc:okC c=false) (hn:2≤X.ks.length) :
    Calls Tryz.prog 185 #[.agg #[.int .i64 a,.int .i64 3,.int .i64 X.lv,.int .i64 X.rt,.string (hiB X.hi),.slice ao X.items.length cp],.int .i64 c] w fun x w'=>x=.returned (.tuple #[.agg #[.int .i64 0,.int .i64 0,.int .i64 0,.int .i64 0,.string ⟨#[]⟩,.slice none 0 0],.agg #[.int .i64 0,.int .i64 0,.int .i64 0,.int .i64 0,.string ⟨#[]⟩,.slice none 0 0],.agg #[.string ⟨#[]⟩,.int .i64 0,.int .i64 0],.int .i64 140])∧Only (fun _=>False) w w':=by
  have HX:=hide (SvI.new w a X.lv X.rt (hiB X.hi) ao X.items.length cp)
  have hl:=Nd.items_len X
  have hlen:¬ (X.items.length:Int) < 2:=by omega
  have HRD:Hid (∀ W,Only (fun _=>False) w W→Calls Tryz.prog 96 #[.agg #[.int .i64 a,.int .i64 3,.int .i64 X.lv,.int .i64 X.rt,.string (hiB X.hi),.slice ao X.items.length cp]] W fun x w'=>(∃ A n1 C A2 n2 C2,x=.returned (.tuple #[.agg #[.slice A n1 C,.slice A2 n2 C2,.string X.hi.key,.int .i64 X.hi.page,.int .i64 X.hi.slot],.bool true]))∧Only (fun _=>False) W w'):=fun W ho=>by
    rcases Nat.eq_zero_or_pos X.lv with v | v
    · have q:=read_leaf W a X.rt (hiB X.hi) X.hi B cp ao X.items X.es ((hP.more ho).lp v)
      rw [v,Int.ofNat_zero]
      refine q.mono ?_
      rintro x w' ⟨A,C,rfl,_,o⟩
      exact ⟨⟨_,_,_,_,_,_,rfl⟩,o⟩
    · have q:=read_inner W a X.lv X.rt (hiB X.hi) X.hi B cp ao X.items X.ks ((hP.more ho).ip v)
      refine q.mono ?_
      rintro x w' ⟨A,C,A2,C2,rfl,_,_,o⟩
      exact ⟨⟨_,_,_,_,_,_,rfl⟩,o⟩
  have HIC:Hid (∀ W,Calls Tryz.prog 146 #[.int .i64 c] W fun x w'=>x=.returned (.bool false)∧w'=W):=fun W=>by
    have:=isChild_any c W
    rwa [hc] at this
  clear hP hc hl hn
  obtain ⟨E,hE⟩:=exq (X.hi)
  obtain ⟨L,hL⟩:=exq ((X.lv:Int))
  obtain ⟨R,hR⟩:=exq ((X.rt:Int))
  obtain ⟨h,hh⟩:=exq (hiB X.hi)
  obtain ⟨n,hn2⟩:=exq (X.items.length)
  rw [hL,hR,hh,hn2] at HX HRD
  rw [hE] at HRD
  rw [hn2] at hlen
  rw [hL,hR,hh,hn2]
  clear hL hR hh hn2 hE
  go_enter Tryz.func185,Tryz.ntmps185
  go_upto_region 1 with fail
  obtain ⟨W0,hW0⟩:=exq (svI w a L R h ao n cp)
  rw [hW0] at HX
  unfold svI at hW0
  rw [hW0]
  clear hW0
  obtain ⟨p0,p1,p2,p3,p4,p5,_⟩:=HX.out.pag
  go_wp2_with fail
  refine (HRD.out W0 HX.out.only).mono ?_
  rintro x w1 ⟨⟨A,n1,C,A2,n2,C2,rfl⟩,ho⟩
  have HXa:=hide (HX.out.more ho)
  have HA:=hide (onlyA w1 (.cells #[.slice A n1 C,.slice A2 n2 C2,.string E.key,.int .i64 E.page,.int .i64 E.slot] 164))
  clear ho p0 p1 p2 p3 p4 p5 HX HRD
  go_upto_region 2 with fail
  obtain ⟨w2,hw2⟩:=exq (w1.alloc (.cells #[.slice A n1 C,.slice A2 n2 C2,.string E.key,.int .i64 E.page,.int .i64 E.slot] 164))
  rw [hw2] at HA ⊢
  clear hw2
  have HX1:=hide (HXa.out.more HA.out)
  have p5:=HX1.out.pag.c5
  clear HXa HA
  go_wp2_with fail
  refine (HIC.out _).mono ?_
  rintro x w3 ⟨rfl,h4⟩
  obtain rfl:=h4.symm
  clear h4 p5
  have HFIN:Hid (Only (fun _=>False) w2 w2):=Only.refl _ _
  have HX2:=hide (HX1.out.more HFIN.out)
  clear HX1
  obtain ⟨_,⟨q0,q1,q2,q3,q4,q5,g0,g1,g2,g3,g4,g5,_⟩,⟨r0,r1,r2,r3,r4,r5,s0,s1,s2,s3,s4,s5,_⟩,⟨e0,e1,e2,t0,t1,t2,_⟩,_⟩:=HX2.out
  go_wp2_with fail
  have HZ:=sp_zero _ w.heap.size _ _ _ _ _ _ _ _ _ _ _ _ _ HX2.out.r1 HX2.out.r2 HX2.out.r3
  refine bodyPost_ret (results_split rfl rfl rfl rfl HZ.1 HZ.2.1 HZ.2.2.1) rfl ?_
  exact ⟨rfl,HX2.out.only.trans HZ.2.2.2 (fun i hi e=>by omega)⟩
set_option maxHeartbeats 3200000 in
theorem mroot_no (w:World) (v c d:Int) (e:En) (hv:1≤v) (he:e.ok=true) (hc:255 < v∨(v≤255∧okC c=false)) :
    Calls Tryz.prog 186 #[.int .i64 v,.int .i64 c,e.agg,.int .i64 d] w fun x w'=>Res w w' x .none 140:=by
  have HX:=hide (rt_new w e)
  have HIE:Hid (∀ W,Calls Tryz.prog 84 #[.agg #[.string e.key,.int .i64 e.page,.int .i64 e.slot]] W fun x w'=>x=.returned (.bool true)∧Only (fun _=>False) W w'):=fun W=>by
    have:=isEntry_any e W
    rw [he] at this
    exact this
  have t1:¬ v < 1:=by omega
  rcases hc with t2 | ⟨t2,hc⟩
  · clear hv he HIE
    unfold En.agg
    go_enter Tryz.func186,Tryz.ntmps186
    go_upto_region 1 with fail
    obtain ⟨W0,hW0⟩:=exq ((w.alloc (.cells #[.string e.key,.int .i64 e.page,.int .i64 e.slot] 89)).alloc (.cells #[.int .i64 0,.int .i64 0,.int .i64 0,.int .i64 0,.string ⟨#[]⟩,.slice none 0 0] 37))
    rw [hW0] at HX ⊢
    clear hW0
    obtain ⟨q0,q1,q2,q3,q4,q5,g0,g1,g2,g3,g4,g5,ql⟩:=HX.out.2.1
    go_wp2_with fail
    refine bodyPost_ret (results_page rfl rfl (Pag.six HX.out.2.1 _ _ _ _ _ _)) rfl ?_
    exact resErr _ HX.out.2.2 (by omega)
  · have HIC:Hid (∀ W,Calls Tryz.prog 146 #[.int .i64 c] W fun x w'=>x=.returned (.bool false)∧w'=W):=fun W=>by
      have:=isChild_any c W
      rwa [hc] at this
    have t3:¬ (255:Int) < v:=by omega
    clear hv he hc t2
    unfold En.agg
    go_enter Tryz.func186,Tryz.ntmps186
    go_upto_region 1 with fail
    obtain ⟨W0,hW0⟩:=exq ((w.alloc (.cells #[.string e.key,.int .i64 e.page,.int .i64 e.slot] 89)).alloc (.cells #[.int .i64 0,.int .i64 0,.int .i64 0,.int .i64 0,.string ⟨#[]⟩,.slice none 0 0] 37))
    rw [hW0] at HX ⊢
    clear hW0
    obtain ⟨d0,d1,d2,_⟩:=HX.out.1
    go_wp2_with fail
    refine (HIE.out _).mono ?_
    rintro x W1 ⟨rfl,ho⟩
    have HP1:=hide (HX.out.2.1.more ho)
    have HO1:=hide (o2 HX.out.2.2 ho)
    clear ho d0 d1 d2 HX HIE
    go_wp2_with fail
    refine (HIC.out _).mono ?_
    rintro x w2 ⟨rfl,h4⟩
    obtain rfl:=h4.symm
    obtain ⟨q0,q1,q2,q3,q4,q5,g0,g1,g2,g3,g4,g5,ql⟩:=HP1.out
    go_wp2_with fail
    refine bodyPost_ret (results_page rfl rfl (Pag.six HP1.out _ _ _ _ _ _)) rfl ?_
    exact resErr _ HO1.out (by omega)
set_option maxHeartbeats 1600000 in
theorem bneed_no (w:World) (a k v r page:Int) (h:ByteArray) (s:ByteArray) (B cp:Nat) (ao:Option Addr) (l:List ByteArray) (hS:Strs w B ao l) (hl:l.length≤8796093021952) (hh:h.size≤140737488355328) (ha:a < 9223372036854775808) (hb:ckB a k v r h l=false) :
    Calls Tryz.prog 29 #[.agg #[.int .i64 a,.int .i64 k,.int .i64 v,.int .i64 r,.string h,.slice ao l.length cp],.int .i64 page,.string s] w fun x w'=>x=.returned (.tuple #[.int .i64 0,.int .i64 140])∧Only (fun _=>False) w w':=by
  have HP:=hide (Pag.new w (.int .i64 a) (.int .i64 k) (.int .i64 v) (.int .i64 r) (.string h) (.slice ao l.length cp))
  have HO:=hide (onlyA w (.cells #[.int .i64 a,.int .i64 k,.int .i64 v,.int .i64 r,.string h,.slice ao l.length cp] 37))
  have hCK:=check_any _ a k v r h B cp ao l (hS.more HO.out) hl hh ha
  rw [hb] at hCK
  have HCK:Hid (Calls Tryz.prog 52 #[.agg #[.int .i64 a,.int .i64 k,.int .i64 v,.int .i64 r,.string h,.slice ao l.length cp]] _ fun x w'=>x=.returned (.int .i64 140)∧Only (fun _=>False) _ w'):=hCK
  obtain ⟨n,hn⟩:=exq (l.length)
  rw [hn] at HP HO HCK ⊢
  clear hn hCK hS hl hh ha hb
  go_enter Tryz.func29,Tryz.ntmps29
  go_upto_region 1 with fail
  obtain ⟨W0,hW0⟩:=exq (w.alloc (.cells #[.int .i64 a,.int .i64 k,.int .i64 v,.int .i64 r,.string h,.slice ao n cp] 37))
  rw [hW0] at HP HO HCK ⊢
  clear hW0
  obtain ⟨p0,p1,p2,p3,p4,p5,_⟩:=HP.out
  go_wp2_with fail
  refine HCK.out.mono ?_
  rintro x w1 ⟨rfl,ho⟩
  have HO1:=hide (o2 HO.out ho)
  clear ho p0 p1 p2 p3 p4 p5 HP HO HCK
  go_wp2_with fail
  go_ret2
  exact ⟨rfl,HO1.out⟩
set_option maxHeartbeats 3200000 in
theorem benter_no (w:World) (a k v r page:Int) (h:ByteArray) (s:ByteArray) (B cp:Nat) (ao:Option Addr) (l:List ByteArray) (hS:Strs w B ao l) (hl:l.length≤8796093021952) (hh:h.size≤140737488355328) (ha:a < 9223372036854775808) (hb:ckB a k v r h l=false) (m fc:Nat) (fa:Option Addr) :
    Calls Tryz.prog 151 #[.agg #[.int .i64 a,.int .i64 k,.int .i64 v,.int .i64 r,.string h,.slice ao l.length cp],.int .i64 page,.string s,.slice fa m fc] w fun x w'=>x=.returned (.tuple #[.agg Br.none.cells,.int .i64 140])∧Only (fun _=>False) w w':=by
  have HX:=hide (en_new w (.int .i64 a) (.int .i64 k) (.int .i64 v) (.int .i64 r) (.string h) (.slice ao l.length cp))
  have HND:Hid (∀ W,Only (fun _=>False) w W→Calls Tryz.prog 29 #[.agg #[.int .i64 a,.int .i64 k,.int .i64 v,.int .i64 r,.string h,.slice ao l.length cp],.int .i64 page,.string s] W fun x w'=>x=.returned (.tuple #[.int .i64 0,.int .i64 140])∧Only (fun _=>False) W w'):=fun W ho=>bneed_no W a k v r page h s B cp ao l (hS.more ho) hl hh ha hb
  obtain ⟨n,hn⟩:=exq (l.length)
  rw [hn] at HX HND ⊢
  clear hn hS hl hh ha hb
  go_enter Tryz.func151,Tryz.ntmps151
  go_upto_region 1 with fail
  obtain ⟨W0,hW0⟩:=exq ((w.alloc (.cells #[.int .i64 a,.int .i64 k,.int .i64 v,.int .i64 r,.string h,.slice ao n cp] 37)).alloc (.cells Br.none.cells 50))
  rw [hW0] at HX ⊢
  clear hW0
  obtain ⟨p0,p1,p2,p3,p4,p5,_⟩:=HX.out.1
  go_wp2_with fail
  refine (HND.out _ HX.out.2.2).mono ?_
  rintro x w1 ⟨rfl,ho⟩
  have HR1:=hide (HX.out.2.1.more ho)
  have HO1:=hide (o2 HX.out.2.2 ho)
  clear ho p0 p1 p2 p3 p4 p5 HX HND
  go_wp2_with (first | (refine wpList_build_bnone rfl rfl ?_; go_frame) | (refine wpList_put_br rfl (.tmp 8) (.tmp 23) rfl (w.heap.size+1) rfl Br.none.cl rfl Br.none rfl HR1.out ?_; intro W9 HW9; go_frame))
  refine bodyPost_ret (results_br rfl rfl HW9.out.at_) rfl ?_
  exact ⟨rfl,HO1.out.trans HW9.out.only (fun i hi e=>by omega)⟩
end Go.Proofs.YtajjakljheafjaaGreat
