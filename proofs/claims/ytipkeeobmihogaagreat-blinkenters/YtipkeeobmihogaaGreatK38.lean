/- Parts. -/
import Derived.Test.YtipkeeobmihogaaGreatK29
import Derived.Test.YtipkeeobmihogaaGreatK37
import Derived.Test.YtipkeeobmihogaaGreatK35
set_option maxRecDepth 100000
namespace Go.Proofs.YtipkeeobmihogaaGreat
open Go.RowKit
set_option maxHeartbeats 3200000 in
theorem froot_ok (w:World) (v c d:Int) (e:En) (hv:1≤v∧v≤255) (hc:okC c=true) (hd:okC d=true) (he:e.ok=true) :
    Calls Tryz.prog 23 #[.int .i64 v,.int .i64 c,e.agg,.int .i64 d] w fun x w'=>Res w w' x ⟨0,3,v,0,⟨#[]⟩,[noE.encS c,e.encS d]⟩ 0:=by
  have HX:=hide (rt_new w e)
  have HIE:Hid (∀ W,Calls Tryz.prog 55 #[.agg #[.string e.key,.int .i64 e.page,.int .i64 e.slot]] W fun x w'=>x=.returned (.bool true)∧Only (fun _=>False) W w'):=fun W=>by
    have:=fentry_any e W
    rw [he] at this
    exact this
  have HIC:Hid (∀ W,Calls Tryz.prog 52 #[.int .i64 c] W fun x w'=>x=.returned (.bool true)∧w'=W):=fun W=>by
    have:=fchild_any c W
    rwa [hc] at this
  have HID:Hid (∀ W,Calls Tryz.prog 52 #[.int .i64 d] W fun x w'=>x=.returned (.bool true)∧w'=W):=fun W=>by
    have:=fchild_any d W
    rwa [hd] at this
  have HLC:Hid (∀ W,Calls Tryz.prog 54 #[.agg #[.string ⟨#[]⟩,.int .i64 0,.int .i64 0],.int .i64 c] W fun x w'=>x=.returned (.tuple #[.string (noE.encS c),.int .i64 0])∧Only (fun _=>False) W w'):=fun W=>by
    have q:=fsep_any noE c W
    rw [En.sp_iff.2 (.inl rfl),hc] at q
    exact q
  have HLD:Hid (∀ W,Calls Tryz.prog 54 #[.agg #[.string e.key,.int .i64 e.page,.int .i64 e.slot],.int .i64 d] W fun x w'=>x=.returned (.tuple #[.string (e.encS d),.int .i64 0])∧Only (fun _=>False) W w'):=fun W=>by
    have q:=fsep_any e d W
    rw [En.sp_iff.2 (.inr he),hd] at q
    exact q
  obtain ⟨E1,hE1⟩:=exq (noE.encS c)
  obtain ⟨E2,hE2⟩:=exq (e.encS d)
  have HZ:Hid (E1.size≤55∧E2.size≤55):=by rw [← hE1,← hE2]; exact ⟨noE_encS_size c,encS_sizeR d he⟩
  rw [hE1] at HLC ⊢
  rw [hE2] at HLD ⊢
  have t1:¬ v < 1:=by omega
  have t2:¬ (255:Int) < v:=by omega
  clear hE1 hE2 hv hc hd he
  unfold En.agg
  go_enter Tryz.func23,Tryz.ntmps23
  go_upto_region 1 with fail
  obtain ⟨W0,hW0⟩:=exq ((w.alloc (.cells #[.string e.key,.int .i64 e.page,.int .i64 e.slot] 41)).alloc (.cells #[.int .i64 0,.int .i64 0,.int .i64 0,.int .i64 0,.string ⟨#[]⟩,.slice none 0 0] 24))
  rw [hW0] at HX ⊢
  clear hW0
  obtain ⟨d0,d1,d2,_⟩:=HX.out.1
  go_wp2_with fail
  refine (HIE.out _).mono ?_
  rintro x W1 ⟨rfl,ho⟩
  have HV1:=hide (HX.out.1.more ho)
  have HP1:=hide (HX.out.2.1.more ho)
  have HO1:=hide (o2 HX.out.2.2 ho)
  clear ho d0 d1 d2 HX HIE
  go_wp2_with fail
  refine (HIC.out _).mono ?_
  rintro x w2 ⟨rfl,h4⟩
  obtain rfl:=h4.symm
  go_wp2_with fail
  refine (HID.out _).mono ?_
  rintro x w3 ⟨rfl,h5⟩
  obtain rfl:=h5.symm
  clear t1 t2 HIC HID
  go_wp2_with fail
  refine (HLC.out _).mono ?_
  rintro x w4 ⟨rfl,ho⟩
  have HV4:=hide (HV1.out.more ho)
  have HP4:=hide (HP1.out.more ho)
  have HO4:=hide (o2 HO1.out ho)
  clear ho HV1 HP1 HO1 HLC
  obtain ⟨d0,d1,d2,_⟩:=HV4.out
  go_wp2_with fail
  refine (HLD.out _).mono ?_
  rintro x w5 ⟨rfl,ho⟩
  have HP5:=hide (HP4.out.more ho)
  have HO5:=hide (o2 HO4.out ho)
  clear ho d0 d1 d2 HV4 HP4 HO4 HLD
  have hA:=onlyA w5 (.cells #[.string E1,.string E2] 9)
  have HS9:=hide (strsN w5 E1 E2 HZ.out.1 HZ.out.2)
  have HP6:=hide (HP5.out.more hA)
  have HZ5:Hid (w.heap.size+1 < w5.heap.size):=HP5.out.lt
  have HO6:=hide (o2 HO5.out hA)
  clear hA HP5
  obtain ⟨q0,q1,q2,q3,q4,q5,g0,g1,g2,g3,g4,g5,ql⟩:=HP6.out
  go_wp2_with fail
  refine bodyPost_ret (results_page rfl rfl (Pag.six HP6.out _ _ _ _ _ _)) rfl ?_
  have h6:=Only.six (w5.alloc (.cells #[.string E1,.string E2] 9)) (w.heap.size+1) (.int .i64 0) (.int .i64 3) (.int .i64 v) (.int .i64 0) (.string ⟨#[]⟩) (.slice (some ⟨w5.heap.size,0,none⟩) 2 2)
  have hz:=HZ5.out
  exact ⟨w5.heap.size,some ⟨w5.heap.size,0,none⟩,2,rfl,HS9.out.kept h6 (fun _=>by omega),⟨(fun h=>nomatch h),by simp,by unfold maxLen; omega⟩,HO6.out.trans h6 (fun i hi e=>by omega),fun _=>by have:=HO5.out.size; omega⟩
set_option maxHeartbeats 3200000 in
theorem froot_no (w:World) (v c d:Int) (e:En) (hv:1≤v) (he:e.ok=true) (hc:255 < v∨(v≤255∧okC c=false)) :
    Calls Tryz.prog 23 #[.int .i64 v,.int .i64 c,e.agg,.int .i64 d] w fun x w'=>Res w w' x .none 140:=by
  have HX:=hide (rt_new w e)
  have HIE:Hid (∀ W,Calls Tryz.prog 55 #[.agg #[.string e.key,.int .i64 e.page,.int .i64 e.slot]] W fun x w'=>x=.returned (.bool true)∧Only (fun _=>False) W w'):=fun W=>by
    have:=fentry_any e W
    rw [he] at this
    exact this
  have t1:¬ v < 1:=by omega
  rcases hc with t2 | ⟨t2,hc⟩
  · clear hv he HIE
    unfold En.agg
    go_enter Tryz.func23,Tryz.ntmps23
    go_upto_region 1 with fail
    obtain ⟨W0,hW0⟩:=exq ((w.alloc (.cells #[.string e.key,.int .i64 e.page,.int .i64 e.slot] 41)).alloc (.cells #[.int .i64 0,.int .i64 0,.int .i64 0,.int .i64 0,.string ⟨#[]⟩,.slice none 0 0] 24))
    rw [hW0] at HX ⊢
    clear hW0
    obtain ⟨q0,q1,q2,q3,q4,q5,g0,g1,g2,g3,g4,g5,ql⟩:=HX.out.2.1
    go_wp2_with fail
    refine bodyPost_ret (results_page rfl rfl (Pag.six HX.out.2.1 _ _ _ _ _ _)) rfl ?_
    exact resErr _ HX.out.2.2 (by omega)
  · have HIC:Hid (∀ W,Calls Tryz.prog 52 #[.int .i64 c] W fun x w'=>x=.returned (.bool false)∧w'=W):=fun W=>by
      have:=fchild_any c W
      rwa [hc] at this
    have t3:¬ (255:Int) < v:=by omega
    clear hv he hc t2
    unfold En.agg
    go_enter Tryz.func23,Tryz.ntmps23
    go_upto_region 1 with fail
    obtain ⟨W0,hW0⟩:=exq ((w.alloc (.cells #[.string e.key,.int .i64 e.page,.int .i64 e.slot] 41)).alloc (.cells #[.int .i64 0,.int .i64 0,.int .i64 0,.int .i64 0,.string ⟨#[]⟩,.slice none 0 0] 24))
    rw [hW0] at HX ⊢
    clear hW0
    obtain ⟨d0,d1,d2,_⟩:=HX.out.1
    go_wp2_with fail
    refine (HIE.out _).mono ?_
    rintro x W1 ⟨rfl,ho⟩
    have HP1:=hide (HX.out.2.1.more ho)
    have HO1:=hide (o2 HX.out.2.2 ho)
    clear ho d0 d1 d2 HX HIE
    go_wp2_with fail
    refine (HIC.out _).mono ?_
    rintro x w2 ⟨rfl,h4⟩
    obtain rfl:=h4.symm
    obtain ⟨q0,q1,q2,q3,q4,q5,g0,g1,g2,g3,g4,g5,ql⟩:=HP1.out
    go_wp2_with fail
    refine bodyPost_ret (results_page rfl rfl (Pag.six HP1.out _ _ _ _ _ _)) rfl ?_
    exact resErr _ HO1.out (by omega)
set_option maxHeartbeats 3200000 in
theorem mroot_no (w:World) (v c d:Int) (e:En) (hv:1≤v) (he:e.ok=true) (hc:255 < v∨(v≤255∧okC c=false)) :
    Calls Tryz.prog 50 #[.int .i64 v,.int .i64 c,e.agg,.int .i64 d] w fun x w'=>Res w w' x .none 140:=by
  have HX:=hide (rt_new w e)
  have HIE:Hid (∀ W,Calls Tryz.prog 60 #[.agg #[.string e.key,.int .i64 e.page,.int .i64 e.slot]] W fun x w'=>x=.returned (.bool true)∧Only (fun _=>False) W w'):=fun W=>by
    have:=isEntry_any e W
    rw [he] at this
    exact this
  have t1:¬ v < 1:=by omega
  rcases hc with t2 | ⟨t2,hc⟩
  · clear hv he HIE
    unfold En.agg
    go_enter Tryz.func50,Tryz.ntmps50
    go_upto_region 1 with fail
    obtain ⟨W0,hW0⟩:=exq ((w.alloc (.cells #[.string e.key,.int .i64 e.page,.int .i64 e.slot] 41)).alloc (.cells #[.int .i64 0,.int .i64 0,.int .i64 0,.int .i64 0,.string ⟨#[]⟩,.slice none 0 0] 24))
    rw [hW0] at HX ⊢
    clear hW0
    obtain ⟨q0,q1,q2,q3,q4,q5,g0,g1,g2,g3,g4,g5,ql⟩:=HX.out.2.1
    go_wp2_with fail
    refine bodyPost_ret (results_page rfl rfl (Pag.six HX.out.2.1 _ _ _ _ _ _)) rfl ?_
    exact resErr _ HX.out.2.2 (by omega)
  · have HIC:Hid (∀ W,Calls Tryz.prog 81 #[.int .i64 c] W fun x w'=>x=.returned (.bool false)∧w'=W):=fun W=>by
      have:=isChild_any c W
      rwa [hc] at this
    have t3:¬ (255:Int) < v:=by omega
    clear hv he hc t2
    unfold En.agg
    go_enter Tryz.func50,Tryz.ntmps50
    go_upto_region 1 with fail
    obtain ⟨W0,hW0⟩:=exq ((w.alloc (.cells #[.string e.key,.int .i64 e.page,.int .i64 e.slot] 41)).alloc (.cells #[.int .i64 0,.int .i64 0,.int .i64 0,.int .i64 0,.string ⟨#[]⟩,.slice none 0 0] 24))
    rw [hW0] at HX ⊢
    clear hW0
    obtain ⟨d0,d1,d2,_⟩:=HX.out.1
    go_wp2_with fail
    refine (HIE.out _).mono ?_
    rintro x W1 ⟨rfl,ho⟩
    have HP1:=hide (HX.out.2.1.more ho)
    have HO1:=hide (o2 HX.out.2.2 ho)
    clear ho d0 d1 d2 HX HIE
    go_wp2_with fail
    refine (HIC.out _).mono ?_
    rintro x w2 ⟨rfl,h4⟩
    obtain rfl:=h4.symm
    obtain ⟨q0,q1,q2,q3,q4,q5,g0,g1,g2,g3,g4,g5,ql⟩:=HP1.out
    go_wp2_with fail
    refine bodyPost_ret (results_page rfl rfl (Pag.six HP1.out _ _ _ _ _ _)) rfl ?_
    exact resErr _ HO1.out (by omega)
def Nd.way (X:Nd) (v:Nat) (e:En):Int × Bool:=if byd X.hi e=true then (X.rt,false) else if X.lv=v then (0,true) else (chK X.ks e,false)
set_option maxHeartbeats 3200000 in
theorem way_nd (w:World) (a:Int) (X:Nd) (v:Nat) (e:En) (B cp:Nat) (ao:Option Addr) (hP:Nm w X B ao) (ha:0≤a∧a < 9223372036854775808) (he:e.ok=true) (hv:v≤X.lv) :
    Calls Tryz.prog 32 #[.agg #[.int .i64 a,.int .i64 3,.int .i64 X.lv,.int .i64 X.rt,.string (hiB X.hi),.slice ao X.items.length cp],.int .i64 v,e.agg] w fun x w'=>x=.returned (.tuple #[.int .i64 (X.way v e).1,.bool (X.way v e).2,.int .i64 0])∧Only (fun _=>False) w w':=by
  have HX:=hide (pe_new w (.int .i64 a) (.int .i64 3) (.int .i64 X.lv) (.int .i64 X.rt) (.string (hiB X.hi)) (.slice ao X.items.length cp) e)
  have HCK:Hid (∀ W,Only (fun _=>False) w W→Calls Tryz.prog 12 #[.agg #[.int .i64 a,.int .i64 3,.int .i64 X.lv,.int .i64 X.rt,.string (hiB X.hi),.slice ao X.items.length cp]] W fun x w'=>x=.returned (.int .i64 0)∧Only (fun _=>False) W w'):=fun W ho=>check_nd W a X B cp ao (hP.more ho) ha
  have HBY:Hid (∀ W,Only (fun _=>False) w W→Calls Tryz.prog 70 #[.agg #[.int .i64 a,.int .i64 3,.int .i64 X.lv,.int .i64 X.rt,.string (hiB X.hi),.slice ao X.items.length cp],.agg #[.string e.key,.int .i64 e.page,.int .i64 e.slot]] W fun x w'=>x=.returned (.tuple #[.bool (byd X.hi e),.int .i64 0])∧Only (fun _=>False) W w'):=fun W ho=>by
    have h:=beyond_nd W a X e B cp ao (hP.more ho)
    unfold byV at h
    rw [if_pos he] at h
    exact h
  have HCH:Hid (0 < X.lv→byd X.hi e=false→∀ W,Only (fun _=>False) w W→Calls Tryz.prog 71 #[.agg #[.int .i64 a,.int .i64 3,.int .i64 X.lv,.int .i64 X.rt,.string (hiB X.hi),.slice ao X.items.length cp],.agg #[.string e.key,.int .i64 e.page,.int .i64 e.slot]] W fun x w'=>x=.returned (.tuple #[.int .i64 (chK X.ks e),.int .i64 0])∧Only (fun _=>False) W w'):=fun v0 hb W ho=>by
    have h:=child_ok W a X.lv X.rt (hiB X.hi) X.hi e B cp ao X.items X.ks ((hP.more ho).ip v0)
    unfold chV at h
    rw [if_pos ⟨he,hb⟩] at h
    exact h
  have hv1:¬ (v:Int) < 0:=by omega
  have hv2:¬ (X.lv:Int) < (v:Int):=by omega
  obtain ⟨⟨N,T⟩,hNT⟩:∃ q,X.way v e=q:=⟨_,rfl⟩
  rw [hNT]
  have HNT:=hide hNT
  unfold Nd.way at HNT
  have HLV:Hid (X.lv=v∨(0 < X.lv∧¬ X.lv=v)):=by unfold Hid; omega
  clear hP ha he hNT
  obtain ⟨C,hC⟩:=exq (chK X.ks e)
  rw [hC] at HCH HNT
  obtain ⟨Y,hY⟩:=exq (byd X.hi e)
  rw [hY] at HCH HNT HBY
  obtain ⟨R,hR⟩:=exq ((X.rt:Int))
  obtain ⟨h,hh⟩:=exq (hiB X.hi)
  obtain ⟨n,hn⟩:=exq (X.items.length)
  rw [hR,hh,hn] at HX HCK HBY HCH ⊢
  rw [hR] at HNT
  clear hR hh hn hC hY
  obtain ⟨L,hL⟩:=exq (X.lv)
  rw [hL] at HX HCK HBY HCH HNT HLV hv hv2 ⊢
  clear hL
  unfold En.agg
  simp only []
  go_enter Tryz.func32,Tryz.ntmps32
  go_upto_region 1 with fail
  obtain ⟨W0,hW0⟩:=exq ((w.alloc (.cells #[.int .i64 a,.int .i64 3,.int .i64 L,.int .i64 R,.string h,.slice ao n cp] 24)).alloc (.cells #[.string e.key,.int .i64 e.page,.int .i64 e.slot] 41))
  rw [hW0] at HX ⊢
  clear hW0
  obtain ⟨p0,p1,p2,p3,p4,p5,_⟩:=HX.out.1
  go_wp2_with fail
  refine (HCK.out _ HX.out.2.2).mono ?_
  rintro x w1 ⟨rfl,ho⟩
  have HP1:=hide (HX.out.1.more ho)
  have HV1:=hide (HX.out.2.1.more ho)
  have HO1:=hide (o2 HX.out.2.2 ho)
  clear ho p0 p1 p2 p3 p4 p5 HX HCK
  obtain ⟨p0,p1,p2,p3,p4,p5,_⟩:=HP1.out
  obtain ⟨d0,d1,d2,_⟩:=HV1.out
  go_wp2_with fail
  refine (HBY.out _ HO1.out).mono ?_
  rintro x w2 ⟨rfl,ho⟩
  have HP2:=hide (HP1.out.more ho)
  have HV2:=hide (HV1.out.more ho)
  have HO2:=hide (o2 HO1.out ho)
  clear ho p0 p1 p2 p3 p4 p5 d0 d1 d2 HP1 HV1 HO1 HBY
  obtain ⟨p0,p1,p2,p3,p4,p5,_⟩:=HP2.out
  cases Y with
  | true=>
    have HN2:Hid (N=R∧T=false):=by
      have q:=HNT.out
      rw [if_pos rfl,Prod.mk.injEq] at q
      exact ⟨q.1.symm,q.2.symm⟩
    clear HNT HCH
    go_wp2_with fail
    go_ret3
    obtain ⟨rfl,rfl⟩:=HN2.out
    exact ⟨rfl,HO2.out⟩
  | false=>
    rw [if_neg (by decide)] at HNT
    rcases HLV.out with q | ⟨q1,q2⟩
    · have HN2:Hid (N=0∧T=true):=by
        have z:=HNT.out
        rw [if_pos q,Prod.mk.injEq] at z
        exact ⟨z.1.symm,z.2.symm⟩
      clear HNT HCH HLV
      have hq:((L:Int) == (v:Int))=true:=by rw [q]; simp
      clear q
      go_wp2_with fail
      go_ret3
      obtain ⟨rfl,rfl⟩:=HN2.out
      exact ⟨rfl,HO2.out⟩
    · have HN2:Hid (N=C∧T=false):=by
        have z:=HNT.out
        rw [if_neg q2,Prod.mk.injEq] at z
        exact ⟨z.1.symm,z.2.symm⟩
      have HCH2:=hide (HCH.out q1 rfl)
      clear HNT HCH HLV
      have hq:((L:Int) == (v:Int))=false:=by simpa using (fun z:(L:Int)=(v:Int)=>q2 (by omega))
      clear q1 q2
      obtain ⟨d0,d1,d2,_⟩:=HV2.out
      go_wp2_with fail
      refine (HCH2.out _ HO2.out).mono ?_
      rintro x w3 ⟨rfl,ho⟩
      have HO3:=hide (o2 HO2.out ho)
      clear ho
      go_wp2_with fail
      go_ret3
      obtain ⟨rfl,rfl⟩:=HN2.out
      exact ⟨rfl,HO3.out⟩
theorem only_any {S:Nat→Prop} {a b:World} (h:Only (fun _=>False) a b):Only S a b:=h.mono (fun _ _ h=>h.elim)
noncomputable def chg (c:Prop) (p:Pg):Pg × Int:=open Classical in if c then (.none,3) else (p,0)
theorem Or3.res {w w':World} {e:Ending} {c:Prop} {p:Pg} (h:Or3 w w' e c p):Res w w' e (chg c p).1 (chg c p).2:=by
  unfold chg
  by_cases hc:c
  · rw [if_pos hc]; exact h.1 hc
  · rw [if_neg hc]; exact h.2 hc
theorem res_laid {w W x:World} {p:Pg} {c:Int} {B cp:Nat} {ao:Option Addr} (ho:Only (fun _=>False) w W) (hb:w.heap.size+1 < W.heap.size) (hS:Strs x B ao p.items) (hF:Fit ao p.items.length cp) (h1:Only (fun _=>False) W x) (hn:0 < p.items.length→W.heap.size≤B) (v0 v1 v2 v3 v4 v5:Value) :
    Res w ((((((x.setCell ⟨w.heap.size+1,0,none⟩ v0).setCell ⟨w.heap.size+1,1,none⟩ v1).setCell ⟨w.heap.size+1,2,none⟩ v2).setCell ⟨w.heap.size+1,3,none⟩ v3).setCell ⟨w.heap.size+1,4,none⟩ v4).setCell ⟨w.heap.size+1,5,none⟩ v5) (.returned (.tuple #[.agg #[.int .i64 p.lsn,.int .i64 p.kind,.int .i64 p.level,.int .i64 p.right,.string p.high,.slice ao p.items.length cp],.int .i64 c])) p c :=
  ⟨B,ao,cp,rfl,hS.kept (Only.six _ _ _ _ _ _ _ _) (fun h0 e=>by have:=hn h0; omega),hF,(o2 ho h1).trans (Only.six _ _ _ _ _ _ _ _) (fun i hi e=>by omega),fun h0=>by have:=hn h0; have:=ho.size; omega⟩
set_option maxHeartbeats 3200000 in
theorem yput_some (w:World) (a k v r:Int) (h:ByteArray) (B b o cp:Nat) (l:List ByteArray) (i:Nat) (it:ByteArray) (hit:it.size≤140737488355328) (hS:Strs w B (some ⟨b,o,none⟩) l) (hF:Fit (some ⟨b,o,none⟩) l.length cp) (hh:h.size≤140737488355328) (hi:i≤l.length) (hlm:l.length≤8796093021952) :
    Calls Tryz.prog 119 #[.agg #[.int .i64 a,.int .i64 k,.int .i64 v,.int .i64 r,.string h,.slice (some ⟨b,o,none⟩) l.length cp],.int .i64 (i:Int),.string it] w fun e w'=>
      Res w w' e (chg (true=true∧(255 < (l.take i++[it]++l.drop i).length∨512 < 20+h.size+isz (l.take i++[it]++l.drop i))) ⟨a,k,v,r,h,l.take i++[it]++l.drop i⟩).1 (chg (true=true∧(255 < (l.take i++[it]++l.drop i).length∨512 < 20+h.size+isz (l.take i++[it]++l.drop i))) ⟨a,k,v,r,h,l.take i++[it]++l.drop i⟩).2:=by
  have hcp:=hF.le
  have hbig:=hF.big
  obtain ⟨m,hm⟩:=exq (i+1)
  obtain ⟨A2,hA2⟩:=exq ((if cp=i then some (⟨b,o,none⟩:Addr) else some ⟨b,o+i,none⟩))
  have hA:i < l.length→A2=some ⟨b,o+i,none⟩:=fun hk=>by rw [← hA2,if_neg (by omega)]
  have hA0:A2≠none:=by rw [← hA2]; split <;> simp
  have HB0:=hide (boxes_only w a k v r h (.slice (some ⟨b,o,none⟩) l.length cp))
  have HB1:=hide (boxes_one w a k v r h (.slice (some ⟨b,o,none⟩) l.length cp))
  have HB2:=hide (boxes_two w a k v r h (.slice (some ⟨b,o,none⟩) l.length cp))
  have HBZ:=hide (boxes_size w a k v r h (.slice (some ⟨b,o,none⟩) l.length cp))
  obtain ⟨W0,hW0⟩:=exq (boxes w a k v r h (.slice (some ⟨b,o,none⟩) l.length cp))
  rw [hW0] at HB0 HB1 HB2 HBZ
  have HW0:=hide hW0
  clear hW0
  have HS:=hide (hS.more HB0.out)
  have hW1:Only (fun _=>False) W0 (W0.drew.alloc (.cells #[.string it] 9)):=o2 (Only.drew _ _) (onlyA _ _)
  have HC:=hide (changed_any (W0.drew.alloc (.cells #[.string it] 9)) a k v r h (.slice (some ⟨b,o,none⟩) l.length cp) (some ⟨b,o,none⟩) (some ⟨W0.heap.size,0,none⟩) A2 B W0.heap.size B cp 1 (cp - i) i 1 (l.length - i) (l.take i) [it] (l.drop i) true (by simp; omega) (by rfl) (by simp)
    ((HS.out.more hW1).take i) (Strs.one W0.drew it hit) ((HS.out.more hW1).drop i _ hA) ⟨fun h=>(by cases h),by omega,hbig⟩ ⟨fun h=>(by cases h),by omega,by unfold maxLen; omega⟩ ⟨fun h=>absurd h hA0,by omega,by omega⟩ hh (by omega))
  have HW1:=hide hW1
  have HBS:Hid (w.heap.size+1 < (W0.drew.alloc (.cells #[.string it] 9)).heap.size):=by unfold Hid; have h1:=hW1.size; have h2:=HBZ.out; omega
  obtain ⟨P,hP⟩:=exq (chg (true=true∧(255 < (l.take i++[it]++l.drop i).length∨512 < 20+h.size+isz (l.take i++[it]++l.drop i))) ⟨a,k,v,r,h,l.take i++[it]++l.drop i⟩)
  rw [hP]
  have HP:=hide hP
  unfold maxLen at hbig
  have hi0:(0:Int)≤(i:Int):=by omega
  have hi1:(i:Int)≤(l.length:Int):=by omega
  have hi2:(0:Int)≤(m:Int):=by omega
  have hi5:(i:Int)+1=(m:Int):=by omega
  have hi8:IntKind.i64.wrap (m:Int)=(m:Int):=wraps_i64 _ (by omega) (by omega)
  have hi6:(i:Int)≤(cp:Int):=by omega
  have hi9:(i:Int)≤(l.length:Int):=by omega
  have hi7:(l.length:Int)≤(cp:Int):=by omega
  clear hm hA hA0 hP hS hF hW1
  obtain ⟨p0,p1,p2,p3,p4,p5,g0,g1,g2,g3,g4,g5,gl⟩:=HB1.out
  go_enter Tryz.func119,Tryz.ntmps119
  go_upto_region 1 with fail
  first | rw [show (w.alloc (.cells #[.int .i64 a,.int .i64 k,.int .i64 v,.int .i64 r,.string h,.slice (some ⟨b,o,none⟩) l.length cp] 24)).alloc (.cells #[.int .i64 0,.int .i64 0,.int .i64 0,.int .i64 0,.string ⟨#[]⟩,.slice none 0 0] 24)=W0 from HW0.out]
  go_upto_region 3 with fail
  refine wp_region_noPanic ?_
  refine wp_region_held_drew (S:=fun W=>Only (fun k=>k=w.heap.size+1) W0 W) (by kernel_rfl) (Only.drew _ _) (fun hHeld=>?_)
  refine tkQ 0 (.agg #[.int .i64 a,.int .i64 k,.int .i64 v,.int .i64 r,.string h,.slice (some ⟨b,o,none⟩) l.length cp]) rfl (yieldsIf_load_page (by rfl) _ rfl _ rfl (fun W hW=>HB1.out.kept hW (by omega))) ?_
  refine tkP 1 (.pointer (some ⟨w.heap.size,5,none⟩)) rfl ?_
  refine tkP 3 (.int .i64 (i:Int)) rfl ?_
  refine tkP 5 (.string it) rfl ?_
  refine tkP 7 (.pointer (some ⟨w.heap.size,5,none⟩)) rfl ?_
  refine tkP 9 (.int .i64 (i:Int)) rfl ?_
  refine tkQ 2 (.slice (some ⟨b,o,none⟩) l.length cp) rfl (yieldsIf_load_cell (by rfl) 22 _ rfl _ rfl (fun W hW=>(HB1.out.kept hW (by omega)).c5) (fun W hc=>ld_strings hc)) ?_
  refine tkQ 8 (.slice (some ⟨b,o,none⟩) l.length cp) rfl (yieldsIf_load_cell (by rfl) 22 _ rfl _ rfl (fun W hW=>(HB1.out.kept hW (by omega)).c5) (fun W hc=>ld_strings hc)) ?_
  refine tkP 4 (.slice (some ⟨b,o,none⟩) i cp) rfl ?_
  refine tkP 10 (.slice A2 (l.length - i) (cp - i)) rfl ?_
  refine rd1 6 rfl (fun K hK=>?_)
  go_simp
  refine hK.out _ _ (only_any (HW1.out)) (fun hHeld=>?_)
  clear hK K
  try simp only [Act.put,lsA,lsB,lsC]
  refine rd1 11 rfl (fun K hK=>?_)
  go_simp
  refine HC.out.mono ?_
  intro e x hx
  have hx:=hx.res
  obtain ⟨B5,ao5,cp5,rfl,hS5,hF5,ho5,hn5⟩:=(show Res _ x e P.1 P.2 from by rw [← HP.out]; exact hx)
  have HO5:=hide ho5
  obtain ⟨q0,q1,q2,q3,q4,q5,t0,t1,t2,t3,t4,t5,tl⟩:=HB2.out.more (o2 HW1.out ho5)
  have HS5:=hide hS5
  have HN5:=hide hn5
  clear hx hS5 ho5 hn5
  refine hK.out _ _ (only_any (o2 HW1.out HO5.out)) (fun hHeld=>?_)
  clear hK K
  try simp only [Act.put,lsA,lsB,lsC]
  refine tkP 12 (.agg #[.int .i64 P.1.lsn,.int .i64 P.1.kind,.int .i64 P.1.level,.int .i64 P.1.right,.string P.1.high,.slice ao5 P.1.items.length cp5]) rfl ?_
  refine tkP 13 (.int .i64 P.2) rfl ?_
  refine rd1 14 rfl (fun K hK=>?_)
  go_simp
  refine hK.out _ _ ((only_any (o2 HW1.out HO5.out)).trans (Only.six _ _ _ _ _ _ _ _) (fun _ _ h=>h)) (fun hHeld=>?_)
  clear hK K
  try simp only [Act.put,lsA,lsB,lsC]
  refine tkP 15 (.int .i64 P.2) rfl ?_
  refine dnN ?_
  rw [Exit.then]
  go_wp2_with fail
  refine bodyPost_ret (results_page rfl rfl (Pag.six (HB2.out.more (o2 HW1.out HO5.out)) _ _ _ _ _ _)) rfl ?_
  exact res_laid (o2 HB0.out HW1.out) HBS.out HS5.out hF5 HO5.out HN5.out _ _ _ _ _ _
end Go.Proofs.YtipkeeobmihogaaGreat
