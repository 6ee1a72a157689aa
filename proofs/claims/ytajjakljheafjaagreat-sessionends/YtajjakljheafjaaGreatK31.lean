/- Parts. -/
import Derived.Test.YtajjakljheafjaaGreatK29
set_option maxRecDepth 100000
namespace Go.Proofs.YtajjakljheafjaaGreat
open Go.RowKit
theorem Gd.left {X:Nd} (h:Gd X) (hn:2≤X.ks.length) {j:Nat} (hj:j≤65535):Gd (X.left j):=by
  obtain ⟨lo,ho⟩:=h.ok
  exact ⟨h.lvl,hj,⟨lo,ho.left h.kok hn j⟩,Nm.kokL h.kok j⟩
theorem Gd.right {X:Nd} (h:Gd X) (hn:2≤X.ks.length):Gd X.right:=by
  obtain ⟨lo,ho⟩:=h.ok
  exact ⟨h.lvl,h.rt,⟨X.bord,ho.right h.kok hn⟩,Nm.kokR h.kok hn⟩
theorem lay_any (w:World) (base b n c:Nat) (m1 m2:Int) (X:Nd) (j:Nat) (ao1 ao2:Option Addr) (cp1 cp2:Nat) (C3:List Value) (s:ByteArray) (e:En) (k:Int) (hn:2≤n) (hr:w.ownsRow base 253 7 (.slice (some ⟨b,0,none⟩) n c) n (imc m1 ((X.left j).z 0 ao1 cp1)++imc m2 (X.right.z 0 ao2 cp2)++C3)) (hG:Gd X) (hj:j≤65535) (hA1:At w (fun q=>base≤q∧q≠b) ((X.left j).z 0 ao1 cp1)) (hA2:At w (fun q=>base≤q∧q≠b) (X.right.z 0 ao2 cp2)) (hs:brd X.lv s=some (e,k)) (hb:¬ X.bad e) (hf:512 < (X.ins e k).size) (hbase:base≤w.heap.size) :
    Calls Tryz.prog 174 #[.slice (some ⟨b,0,none⟩) n c,.string s] w fun x w'=>x=.returned (.int .i64 0)∧∃ ao1' cp1' ao2' cp2',w'.ownsRow base 253 7 (.slice (some ⟨b,0,none⟩) n c) n (imc m1 ((X.nl e k j).z 0 ao1' cp1')++imc m2 ((X.nr e k).z 0 ao2' cp2')++C3)∧At w' (fun q=>base≤q) ((X.nl e k j).z 0 ao1' cp1')∧At w' (fun q=>base≤q) ((X.nr e k).z 0 ao2' cp2')∧Only (fun q=>q=b) w w':=by
  obtain ⟨lo,ho⟩:=hG.ok
  have hc:0 < X.lv→okC k=true:=fun v=>by
    unfold brd at hs
    rw [if_neg (by omega)] at hs
    exact (decS_some hs).2.1
  have h2:2≤X.ks.length:=by have:=(ho.two hG.kok hb hc hf).1; omega
  have he:=(Nd.good hb).1
  unfold Nd.nl Nd.nr
  by_cases y:byd X.bord e=true
  · obtain ⟨q1,q2⟩:=ho.fitsR hG.kok hb hc hf
    rw [if_pos y,if_pos y]
    refine (layInto_right w base b n c m1 m2 (X.left j) X.right ao1 ao2 cp1 cp2 C3 s e k _ hn hr (hG.left h2 hj) (hG.right h2) hA1 hA2 rfl hs he y q1 q2).mono ?_
    rintro x w' ⟨rfl,ao',cp',r1,r2,r3⟩
    exact ⟨rfl,ao1,cp1,ao',cp',r1,(hA1.kept r3 (fun q hq=>hq.2)).mono (fun q hq=>hq.1),r2.mono (fun q hq=>Nat.le_trans hbase hq),r3⟩
  · have y':byd X.bord e=false:=by cases z:byd X.bord e; rfl; exact absurd z y
    obtain ⟨q1,q2⟩:=ho.fitsL hG.kok hb hc hf y' j
    rw [if_neg y,if_neg y]
    refine (layInto_left w base b n c m1 m2 (X.left j) X.right ao1 ao2 cp1 cp2 C3 s e k _ hn hr (hG.left h2 hj) hA1 hs he y' q1 q2).mono ?_
    rintro x w' ⟨rfl,ao',cp',r1,r2,r3⟩
    exact ⟨rfl,ao',cp',ao2,cp2,r1,r2.mono (fun q hq=>Nat.le_trans hbase hq),(hA2.kept r3 (fun q hq=>hq.2)).mono (fun q hq=>hq.1),r3⟩
theorem en_new (w:World) (v0 v1 v2 v3 v4 v5:Value):Pag ((w.alloc (.cells #[v0,v1,v2,v3,v4,v5] 37)).alloc (.cells Br.none.cells 50)) w.heap.size v0 v1 v2 v3 v4 v5∧Rg ((w.alloc (.cells #[v0,v1,v2,v3,v4,v5] 37)).alloc (.cells Br.none.cells 50)) (w.heap.size+1) 0 Br.none.cl∧Only (fun _=>False) w ((w.alloc (.cells #[v0,v1,v2,v3,v4,v5] 37)).alloc (.cells Br.none.cells 50)):=by
  refine ⟨(Pag.new w v0 v1 v2 v3 v4 v5).more (onlyA _ _),?_,o2 (onlyA _ _) (onlyA _ _)⟩
  have e1:=Rg.new (w.alloc (.cells #[v0,v1,v2,v3,v4,v5] 37)) Br.none.cells 50
  rw [World.size_alloc] at e1
  exact e1
def En1 (w w':World) (x:Ending) (p:Int) (X:Nd) (j:Nat) (e:En) (k:Int):Prop :=
  ∃ b ao1 cp1 ao2 cp2,x=.returned (.tuple #[.agg (Br.cells ⟨5,0,⟨#[]⟩,some ⟨b,0,none⟩,2,2⟩),.int .i64 0])∧w'.ownsRow w.heap.size 253 7 (.slice (some ⟨b,0,none⟩) 2 2) 2 (imc p ((X.nl e k j).z 0 ao1 cp1)++imc j ((X.nr e k).z 0 ao2 cp2))∧At w' (fun q=>w.heap.size≤q) ((X.nl e k j).z 0 ao1 cp1)∧At w' (fun q=>w.heap.size≤q) ((X.nr e k).z 0 ao2 cp2)∧Only (fun _=>False) w w'
def En2 (w w':World) (x:Ending) (X:Nd) (i j:Nat) (e:En) (k:Int):Prop :=
  ∃ b c ao1 cp1 ao2 cp2 ao3 cp3,x=.returned (.tuple #[.agg (Br.cells ⟨5,0,⟨#[]⟩,some ⟨b,0,none⟩,3,c⟩),.int .i64 0])∧w'.ownsRow w.heap.size 253 7 (.slice (some ⟨b,0,none⟩) 3 c) 3 (imc i ((X.nl e k j).z 0 ao1 cp1)++imc j ((X.nr e k).z 0 ao2 cp2)++imc 1 ((X.over i j).z 0 ao3 cp3))∧At w' (fun q=>w.heap.size≤q) ((X.nl e k j).z 0 ao1 cp1)∧At w' (fun q=>w.heap.size≤q) ((X.nr e k).z 0 ao2 cp2)∧At w' (fun q=>w.heap.size≤q) ((X.over i j).z 0 ao3 cp3)∧Only (fun _=>False) w w'
set_option maxHeartbeats 3200000 in
theorem enter_err (w:World) (a page:Int) (X:Nd) (s:ByteArray) (B cp:Nat) (ao:Option Addr) (zs:List Int) (fc:Nat) (fa:Option Addr) (hG:Gd X) (hS:Strs w B ao X.items) (hF:Fit ao X.items.length cp) (ha:0≤a∧a < 9223372036854775808) (N E:Int) (hN:X.need page (brd X.lv s)=(N,E)) (hE:¬ E=0) :
    Calls Tryz.prog 151 #[.agg #[.int .i64 a,.int .i64 3,.int .i64 X.lv,.int .i64 X.rt,.string (hiB X.hi),.slice ao X.items.length cp],.int .i64 page,.string s,.slice fa zs.length fc] w fun x w'=>x=.returned (.tuple #[.agg Br.none.cells,.int .i64 E])∧Only (fun _=>False) w w':=by
  have HX:=hide (en_new w (.int .i64 a) (.int .i64 3) (.int .i64 X.lv) (.int .i64 X.rt) (.string (hiB X.hi)) (.slice ao X.items.length cp))
  have HND:Hid (∀ W,Only (fun _=>False) w W→Calls Tryz.prog 29 #[.agg #[.int .i64 a,.int .i64 3,.int .i64 X.lv,.int .i64 X.rt,.string (hiB X.hi),.slice ao X.items.length cp],.int .i64 page,.string s] W fun x w'=>x=.returned (.tuple #[.int .i64 (X.need page (brd X.lv s)).1,.int .i64 (X.need page (brd X.lv s)).2])∧Only (fun _=>False) W w'):=fun W ho=>need_nd W a page X s B cp ao (hG.nm (hS.more ho)) hF ha
  rw [hN] at HND
  simp only [] at HND
  have hE2:(E == 0)=false:=by simpa using hE
  clear hG hS hF ha hN
  obtain ⟨L,hL⟩:=exq ((X.lv:Int))
  obtain ⟨R,hR⟩:=exq ((X.rt:Int))
  obtain ⟨h,hh⟩:=exq (hiB X.hi)
  obtain ⟨n,hn⟩:=exq (X.items.length)
  rw [hL,hR,hh,hn] at HX HND ⊢
  clear hL hR hh hn
  obtain ⟨m,hm⟩:=exq (zs.length)
  rw [hm]
  clear hm
  go_enter Tryz.func151,Tryz.ntmps151
  go_upto_region 1 with fail
  obtain ⟨W0,hW0⟩:=exq ((w.alloc (.cells #[.int .i64 a,.int .i64 3,.int .i64 L,.int .i64 R,.string h,.slice ao n cp] 37)).alloc (.cells Br.none.cells 50))
  rw [hW0] at HX ⊢
  clear hW0
  obtain ⟨p0,p1,p2,p3,p4,p5,_⟩:=HX.out.1
  go_wp2_with fail
  refine (HND.out _ HX.out.2.2).mono ?_
  rintro x w1 ⟨rfl,ho⟩
  have HP1:=hide (HX.out.1.more ho)
  have HR1:=hide (HX.out.2.1.more ho)
  have HO1:=hide (o2 HX.out.2.2 ho)
  clear ho p0 p1 p2 p3 p4 p5 HX HND
  go_wp2_with (first | (refine wpList_build_bnone rfl rfl ?_; go_frame) | (refine wpList_put_br rfl (.tmp 8) (.tmp 23) rfl (w.heap.size+1) rfl Br.none.cl rfl Br.none rfl HR1.out ?_; intro W9 HW9; go_frame))
  refine bodyPost_ret (results_br rfl rfl HW9.out.at_) rfl ?_
  exact ⟨rfl,HO1.out.trans HW9.out.only (fun i hi e=>by omega)⟩
set_option maxHeartbeats 3200000 in
theorem enter_arg (w:World) (a page:Int) (X:Nd) (s:ByteArray) (B cp:Nat) (ao:Option Addr) (zs:List Int) (fb fc:Nat) (fa:Option Addr) (hG:Gd X) (hS:Strs w B ao X.items) (hF:Fit ao X.items.length cp) (ha:0≤a∧a < 9223372036854775808) (hz:Ns w fb fa zs) (hz1:zs.length≤fc) (hz2:fc≤maxLen) (N:Int) (hN:X.need page (brd X.lv s)=(N,0)) (hA:¬ (zs.length:Int)=N∨frs zs=false) :
    Calls Tryz.prog 151 #[.agg #[.int .i64 a,.int .i64 3,.int .i64 X.lv,.int .i64 X.rt,.string (hiB X.hi),.slice ao X.items.length cp],.int .i64 page,.string s,.slice fa zs.length fc] w fun x w'=>x=.returned (.tuple #[.agg Br.none.cells,.int .i64 1])∧Only (fun _=>False) w w':=by
  have HX:=hide (en_new w (.int .i64 a) (.int .i64 3) (.int .i64 X.lv) (.int .i64 X.rt) (.string (hiB X.hi)) (.slice ao X.items.length cp))
  have HND:Hid (∀ W,Only (fun _=>False) w W→Calls Tryz.prog 29 #[.agg #[.int .i64 a,.int .i64 3,.int .i64 X.lv,.int .i64 X.rt,.string (hiB X.hi),.slice ao X.items.length cp],.int .i64 page,.string s] W fun x w'=>x=.returned (.tuple #[.int .i64 (X.need page (brd X.lv s)).1,.int .i64 (X.need page (brd X.lv s)).2])∧Only (fun _=>False) W w'):=fun W ho=>need_nd W a page X s B cp ao (hG.nm (hS.more ho)) hF ha
  rw [hN] at HND
  simp only [] at HND
  have HFR:Hid (∀ W,Only (fun _=>False) w W→Calls Tryz.prog 172 #[.slice fa zs.length fc] W fun e w'=>e=.returned (.bool (frs zs))∧w'=W):=fun W ho=>areFresh_any W fb fc fa zs ⟨fun h0=>by obtain ⟨o,q,hc⟩:=hz.at_ h0; exact ⟨o,q,fun j hj=>(ho.cell (p:=⟨fb,o+j,none⟩) (World.block_lt_of_cell? w _ (hc j hj)) (fun h=>h)).trans (hc j hj)⟩,hz.len⟩ hz1 hz2
  have HL:Hid (¬ (zs.length:Int)=N∨frs zs=false):=hA
  clear hG hS hF ha hN hz hz1 hz2 hA
  obtain ⟨L,hL⟩:=exq ((X.lv:Int))
  obtain ⟨R,hR⟩:=exq ((X.rt:Int))
  obtain ⟨h,hh⟩:=exq (hiB X.hi)
  obtain ⟨n,hn⟩:=exq (X.items.length)
  rw [hL,hR,hh,hn] at HX HND ⊢
  clear hL hR hh hn
  obtain ⟨m,hm⟩:=exq (zs.length)
  obtain ⟨F,hFF⟩:=exq (frs zs)
  rw [hm,hFF] at HFR HL
  rw [hm]
  clear hm hFF
  go_enter Tryz.func151,Tryz.ntmps151
  go_upto_region 1 with fail
  obtain ⟨W0,hW0⟩:=exq ((w.alloc (.cells #[.int .i64 a,.int .i64 3,.int .i64 L,.int .i64 R,.string h,.slice ao n cp] 37)).alloc (.cells Br.none.cells 50))
  rw [hW0] at HX ⊢
  clear hW0
  obtain ⟨p0,p1,p2,p3,p4,p5,_⟩:=HX.out.1
  go_wp2_with fail
  refine (HND.out _ HX.out.2.2).mono ?_
  rintro x w1 ⟨rfl,ho⟩
  have HP1:=hide (HX.out.1.more ho)
  have HR1:=hide (HX.out.2.1.more ho)
  have HO1:=hide (o2 HX.out.2.2 ho)
  clear ho p0 p1 p2 p3 p4 p5 HX HND
  by_cases hq:(m:Int)=N
  · have hF2:F=false:=by rcases HL.out with q | q; exact absurd hq q; exact q
    subst hF2
    clear HL
    go_wp2_with fail
    refine (HFR.out _ HO1.out).mono ?_
    rintro x w2 ⟨rfl,h4⟩
    obtain rfl:=h4.symm
    go_wp2_with (refine wpList_build_bnone rfl rfl ?_; go_frame; refine wpList_put_br rfl (.tmp 8) (.tmp 34) rfl (w.heap.size+1) rfl Br.none.cl rfl Br.none rfl HR1.out ?_; intro W9 HW9; go_frame)
    refine bodyPost_ret (results_br rfl rfl HW9.out.at_) rfl ?_
    exact ⟨rfl,HO1.out.trans HW9.out.only (fun i hi e=>by omega)⟩
  · have hq2:((m:Int) == N)=false:=by simpa using hq
    clear HL HFR
    go_wp2_with (refine wpList_build_bnone rfl rfl ?_; go_frame; refine wpList_put_br rfl (.tmp 8) (.tmp 34) rfl (w.heap.size+1) rfl Br.none.cl rfl Br.none rfl HR1.out ?_; intro W9 HW9; go_frame)
    refine bodyPost_ret (results_br rfl rfl HW9.out.at_) rfl ?_
    exact ⟨rfl,HO1.out.trans HW9.out.only (fun i hi e=>by omega)⟩
set_option maxHeartbeats 3200000 in
theorem enter_in (w:World) (a page:Int) (X:Nd) (s:ByteArray) (B cp:Nat) (ao:Option Addr) (zs:List Int) (fb fc:Nat) (fa:Option Addr) (hG:Gd X) (hS:Strs w B ao X.items) (hF:Fit ao X.items.length cp) (ha:0≤a∧a < 9223372036854775808) (hz:Ns w fb fa zs) (hz1:zs.length≤fc) (hz2:fc≤maxLen) (hN:X.need page (brd X.lv s)=(0,0)) (hA:zs=[]) :
    Calls Tryz.prog 151 #[.agg #[.int .i64 a,.int .i64 3,.int .i64 X.lv,.int .i64 X.rt,.string (hiB X.hi),.slice ao X.items.length cp],.int .i64 page,.string s,.slice fa zs.length fc] w fun x w'=>x=.returned (.tuple #[.agg (Br.cells ⟨3,page,s,none,0,0⟩),.int .i64 0])∧Only (fun _=>False) w w':=by
  have HX:=hide (en_new w (.int .i64 a) (.int .i64 3) (.int .i64 X.lv) (.int .i64 X.rt) (.string (hiB X.hi)) (.slice ao X.items.length cp))
  have HND:Hid (∀ W,Only (fun _=>False) w W→Calls Tryz.prog 29 #[.agg #[.int .i64 a,.int .i64 3,.int .i64 X.lv,.int .i64 X.rt,.string (hiB X.hi),.slice ao X.items.length cp],.int .i64 page,.string s] W fun x w'=>x=.returned (.tuple #[.int .i64 (X.need page (brd X.lv s)).1,.int .i64 (X.need page (brd X.lv s)).2])∧Only (fun _=>False) W w'):=fun W ho=>need_nd W a page X s B cp ao (hG.nm (hS.more ho)) hF ha
  rw [hN] at HND
  simp only [] at HND
  have HFR:Hid (∀ W,Only (fun _=>False) w W→Calls Tryz.prog 172 #[.slice fa zs.length fc] W fun e w'=>e=.returned (.bool (frs zs))∧w'=W):=fun W ho=>areFresh_any W fb fc fa zs ⟨fun h0=>by obtain ⟨o,q,hc⟩:=hz.at_ h0; exact ⟨o,q,fun j hj=>(ho.cell (p:=⟨fb,o+j,none⟩) (World.block_lt_of_cell? w _ (hc j hj)) (fun h=>h)).trans (hc j hj)⟩,hz.len⟩ hz1 hz2
  subst hA
  have hfr:frs []=true:=by decide
  rw [hfr] at HFR
  clear hG hS hF ha hN hz hz1 hz2 hfr
  simp only [List.length_nil] at HFR ⊢
  obtain ⟨L,hL⟩:=exq ((X.lv:Int))
  obtain ⟨R,hR⟩:=exq ((X.rt:Int))
  obtain ⟨h,hh⟩:=exq (hiB X.hi)
  obtain ⟨n,hn⟩:=exq (X.items.length)
  rw [hL,hR,hh,hn] at HX HND ⊢
  clear hL hR hh hn
  go_enter Tryz.func151,Tryz.ntmps151
  go_upto_region 1 with fail
  obtain ⟨W0,hW0⟩:=exq ((w.alloc (.cells #[.int .i64 a,.int .i64 3,.int .i64 L,.int .i64 R,.string h,.slice ao n cp] 37)).alloc (.cells Br.none.cells 50))
  rw [hW0] at HX ⊢
  clear hW0
  obtain ⟨p0,p1,p2,p3,p4,p5,_⟩:=HX.out.1
  go_wp2_with fail
  refine (HND.out _ HX.out.2.2).mono ?_
  rintro x w1 ⟨rfl,ho⟩
  have HP1:=hide (HX.out.1.more ho)
  have HR1:=hide (HX.out.2.1.more ho)
  have HO1:=hide (o2 HX.out.2.2 ho)
  clear ho p0 p1 p2 p3 p4 p5 HX HND
  go_wp2_with fail
  refine (HFR.out _ HO1.out).mono ?_
  rintro x w2 ⟨rfl,h4⟩
  obtain rfl:=h4.symm
  go_wp2_with (refine wpList_build_in rfl (.tmp 37) (.tmp 38) rfl page s rfl rfl ?_; go_frame; refine wpList_put_br rfl (.tmp 8) (.tmp 39) rfl (w.heap.size+1) rfl Br.none.cl rfl ⟨3,page,s,none,0,0⟩ rfl HR1.out ?_; intro W9 HW9; go_frame)
  refine bodyPost_ret (results_br rfl rfl HW9.out.at_) rfl ?_
  exact ⟨rfl,HO1.out.trans HW9.out.only (fun i hi e=>by omega)⟩
set_option maxHeartbeats 3200000 in
theorem enter_one (w:World) (a page:Int) (X:Nd) (s:ByteArray) (B cp:Nat) (ao:Option Addr) (zs:List Int) (fb fc:Nat) (fa:Option Addr) (hG:Gd X) (hS:Strs w B ao X.items) (hF:Fit ao X.items.length cp) (ha:0≤a∧a < 9223372036854775808) (hz:Ns w fb fa zs) (hz1:zs.length≤fc) (hz2:fc≤maxLen) (j:Nat) (e:En) (k:Int) (hN:X.need page (brd X.lv s)=(1,0)) (hA:zs=[(j:Int)]) (hj:okC j=true) (hfr:frs [(j:Int)]=true) (hs:brd X.lv s=some (e,k)) (hb:¬ X.bad e) (hf:512 < (X.ins e k).size) :
    Calls Tryz.prog 151 #[.agg #[.int .i64 a,.int .i64 3,.int .i64 X.lv,.int .i64 X.rt,.string (hiB X.hi),.slice ao X.items.length cp],.int .i64 page,.string s,.slice fa zs.length fc] w fun x w'=>En1 w w' x page X j e k:=by
  have HX:=hide (en_new w (.int .i64 a) (.int .i64 3) (.int .i64 X.lv) (.int .i64 X.rt) (.string (hiB X.hi)) (.slice ao X.items.length cp))
  have HND:Hid (∀ W,Only (fun _=>False) w W→Calls Tryz.prog 29 #[.agg #[.int .i64 a,.int .i64 3,.int .i64 X.lv,.int .i64 X.rt,.string (hiB X.hi),.slice ao X.items.length cp],.int .i64 page,.string s] W fun x w'=>x=.returned (.tuple #[.int .i64 (X.need page (brd X.lv s)).1,.int .i64 (X.need page (brd X.lv s)).2])∧Only (fun _=>False) W w'):=fun W ho=>need_nd W a page X s B cp ao (hG.nm (hS.more ho)) hF ha
  rw [hN] at HND
  simp only [] at HND
  have HFR:Hid (∀ W,Only (fun _=>False) w W→Calls Tryz.prog 172 #[.slice fa zs.length fc] W fun e w'=>e=.returned (.bool (frs zs))∧w'=W):=fun W ho=>areFresh_any W fb fc fa zs ⟨fun h0=>by obtain ⟨o,q,hc⟩:=hz.at_ h0; exact ⟨o,q,fun j hj=>(ho.cell (p:=⟨fb,o+j,none⟩) (World.block_lt_of_cell? w _ (hc j hj)) (fun h=>h)).trans (hc j hj)⟩,hz.len⟩ hz1 hz2
  subst hA
  obtain ⟨fo,rfl,hfc⟩:=hz.at_ (by simp)
  have hf0:=hfc 0 (by simp)
  rw [Nat.add_zero] at hf0
  simp only [List.getElem_cons_zero] at hf0
  have HFL:=hide (World.block_lt_of_cell? w _ hf0)
  have hn2:2≤X.ks.length:=by
    obtain ⟨lo,ho⟩:=hG.ok
    have:=(ho.two hG.kok hb (fun v=>by unfold brd at hs; rw [if_neg (by omega)] at hs; exact (decS_some hs).2.1) hf).1
    omega
  have HSP:Hid (∀ W,Only (fun _=>False) w W→Calls Tryz.prog 173 #[.agg #[.int .i64 a,.int .i64 3,.int .i64 X.lv,.int .i64 X.rt,.string (hiB X.hi),.slice ao X.items.length cp],.int .i64 page,.slice (some ⟨fb,fo,none⟩) 1 fc] W fun x w'=>Im2 W w' x page X j):=fun W ho=>bsplit_one W a page X j B cp fb fo fc ao (hG.nm (hS.more ho)) hF hj hn2 ((ho.cell (p:=⟨fb,fo,none⟩) HFL.out (fun h=>h)).trans hf0)
  have HLY:Hid (∀ (W:World) (base b:Nat) (ao1 ao2:Option Addr) (cp1 cp2:Nat),W.ownsRow base 253 7 (.slice (some ⟨b,0,none⟩) 2 2) 2 (imc page ((X.left j).z 0 ao1 cp1)++imc j (X.right.z 0 ao2 cp2))→At W (fun q=>base≤q∧q≠b) ((X.left j).z 0 ao1 cp1)→At W (fun q=>base≤q∧q≠b) (X.right.z 0 ao2 cp2)→base≤W.heap.size→Calls Tryz.prog 174 #[.slice (some ⟨b,0,none⟩) 2 2,.string s] W fun x w'=>x=.returned (.int .i64 0)∧∃ ao1' cp1' ao2' cp2',w'.ownsRow base 253 7 (.slice (some ⟨b,0,none⟩) 2 2) 2 (imc page ((X.nl e k j).z 0 ao1' cp1')++imc j ((X.nr e k).z 0 ao2' cp2'))∧At w' (fun q=>base≤q) ((X.nl e k j).z 0 ao1' cp1')∧At w' (fun q=>base≤q) ((X.nr e k).z 0 ao2' cp2')∧Only (fun q=>q=b) W w'):=fun W base b ao1 ao2 cp1 cp2 r a1 a2 hb9=>by
    have hj':=okC_iff.1 hj
    have h:=lay_any W base b 2 2 page j X j ao1 ao2 cp1 cp2 [] s e k (by omega) (by rw [List.append_nil]; exact r) hG (by omega) a1 a2 hs hb hf hb9
    simp only [List.append_nil] at h
    exact h
  rw [hfr] at HFR
  clear hG hS hF ha hz hz1 hz2 hN hj hfr hs hb hf hn2 hfc hf0
  simp only [List.length_singleton] at HFR ⊢
  obtain ⟨L,hL⟩:=exq ((X.lv:Int))
  obtain ⟨R,hR⟩:=exq ((X.rt:Int))
  obtain ⟨h,hh⟩:=exq (hiB X.hi)
  obtain ⟨n,hn⟩:=exq (X.items.length)
  rw [hL,hR,hh,hn] at HX HND HSP ⊢
  clear hL hR hh hn
  go_enter Tryz.func151,Tryz.ntmps151
  go_upto_region 1 with fail
  obtain ⟨W0,hW0⟩:=exq ((w.alloc (.cells #[.int .i64 a,.int .i64 3,.int .i64 L,.int .i64 R,.string h,.slice ao n cp] 37)).alloc (.cells Br.none.cells 50))
  rw [hW0] at HX ⊢
  clear hW0
  obtain ⟨p0,p1,p2,p3,p4,p5,_⟩:=HX.out.1
  go_wp2_with fail
  refine (HND.out _ HX.out.2.2).mono ?_
  rintro x w1 ⟨rfl,ho⟩
  have HP1:=hide (HX.out.1.more ho)
  have HR1:=hide (HX.out.2.1.more ho)
  have HO1:=hide (o2 HX.out.2.2 ho)
  clear ho p0 p1 p2 p3 p4 p5 HX HND
  go_wp2_with fail
  refine (HFR.out _ HO1.out).mono ?_
  rintro x w2 ⟨rfl,h4⟩
  obtain rfl:=h4.symm
  obtain ⟨p0,p1,p2,p3,p4,p5,_⟩:=HP1.out
  go_wp2_with fail
  refine (HSP.out _ HO1.out).mono ?_
  rintro x w3 ⟨b,ao1,cp1,ao2,cp2,rfl,hr2,hA1,hA2,ho2⟩
  have HR3:=hide (HR1.out.more ho2)
  have HO3:=hide (o2 HO1.out ho2)
  have HNW:Hid (w.heap.size+1 < w1.heap.size):=HR1.out.lt
  have HNB:Hid (w.heap.size+1 < b):=by
    have h1:=(World.ownsRow.lt hr2 b rfl).1
    have h2:=HR1.out.lt
    unfold Hid
    omega
  have HLY2:=hide (HLY.out _ _ _ _ _ _ _ hr2 hA1 hA2 ho2.size)
  clear hr2 hA1 hA2 ho2 p0 p1 p2 p3 p4 p5 HSP HFR HLY HP1 HR1
  go_wp2_with fail
  refine HLY2.out.mono ?_
  rintro x w4 ⟨rfl,ao1',cp1',ao2',cp2',hr4,hA14,hA24,ho4⟩
  have HR4:=hide (HR3.out.kept ho4 (by have:=HNB.out; omega))
  have HO4:=hide (HO3.out.trans ho4 (fun i hi e=>by have:=HNB.out; omega))
  have HRW4:=hide (And.intro hr4 (And.intro hA14 hA24))
  clear hr4 hA14 hA24 ho4 HR3 HO3 HLY2
  go_wp2_with (refine wpList_build_split rfl (.tmp 58) rfl (some ⟨b,0,none⟩) 2 2 rfl ?_; go_frame; refine wpList_put_br rfl (.tmp 8) (.tmp 59) rfl (w.heap.size+1) rfl Br.none.cl rfl ⟨5,0,⟨#[]⟩,some ⟨b,0,none⟩,2,2⟩ rfl HR4.out ?_; intro W9 HW9; go_frame)
  refine bodyPost_ret (results_br rfl rfl HW9.out.at_) rfl ?_
  have hw1:w.heap.size≤w1.heap.size:=HO1.out.size
  have hr9:=own_mono (own_keptJ HRW4.out.1 HW9.out.only (fun q hq e=>by simp [Value.ownBlock] at hq; have:=HNB.out; omega)) hw1
  have ha9:=(HRW4.out.2.1.kept HW9.out.only (fun q hq e=>by have:=HNW.out; omega)).mono (Q:=fun q=>w.heap.size≤q) (fun q hq=>Nat.le_trans hw1 hq)
  have hb9:=(HRW4.out.2.2.kept HW9.out.only (fun q hq e=>by have:=HNW.out; omega)).mono (Q:=fun q=>w.heap.size≤q) (fun q hq=>Nat.le_trans hw1 hq)
  have ho9:=HO4.out.trans HW9.out.only (fun i hi e=>by omega)
  exact ⟨b,ao1',cp1',ao2',cp2',rfl,hr9,ha9,hb9,ho9⟩
set_option maxHeartbeats 3200000 in
theorem enter_two (w:World) (a page:Int) (X:Nd) (s:ByteArray) (B cp:Nat) (ao:Option Addr) (zs:List Int) (fb fc:Nat) (fa:Option Addr) (hG:Gd X) (hS:Strs w B ao X.items) (hF:Fit ao X.items.length cp) (ha:0≤a∧a < 9223372036854775808) (hz:Ns w fb fa zs) (hz1:zs.length≤fc) (hz2:fc≤maxLen) (i j:Nat) (e:En) (k:Int) (hN:X.need page (brd X.lv s)=(2,0)) (hA:zs=[(i:Int),(j:Int)]) (hi:okC i=true) (hj:okC j=true) (hfr:frs [(i:Int),(j:Int)]=true) (hv:X.lv+1≤255) (hs:brd X.lv s=some (e,k)) (hb:¬ X.bad e) (hf:512 < (X.ins e k).size) :
    Calls Tryz.prog 151 #[.agg #[.int .i64 a,.int .i64 3,.int .i64 X.lv,.int .i64 X.rt,.string (hiB X.hi),.slice ao X.items.length cp],.int .i64 page,.string s,.slice fa zs.length fc] w fun x w'=>En2 w w' x X i j e k:=by
  have HX:=hide (en_new w (.int .i64 a) (.int .i64 3) (.int .i64 X.lv) (.int .i64 X.rt) (.string (hiB X.hi)) (.slice ao X.items.length cp))
  have HND:Hid (∀ W,Only (fun _=>False) w W→Calls Tryz.prog 29 #[.agg #[.int .i64 a,.int .i64 3,.int .i64 X.lv,.int .i64 X.rt,.string (hiB X.hi),.slice ao X.items.length cp],.int .i64 page,.string s] W fun x w'=>x=.returned (.tuple #[.int .i64 (X.need page (brd X.lv s)).1,.int .i64 (X.need page (brd X.lv s)).2])∧Only (fun _=>False) W w'):=fun W ho=>need_nd W a page X s B cp ao (hG.nm (hS.more ho)) hF ha
  rw [hN] at HND
  simp only [] at HND
  have HFR:Hid (∀ W,Only (fun _=>False) w W→Calls Tryz.prog 172 #[.slice fa zs.length fc] W fun e w'=>e=.returned (.bool (frs zs))∧w'=W):=fun W ho=>areFresh_any W fb fc fa zs ⟨fun h0=>by obtain ⟨o,q,hc⟩:=hz.at_ h0; exact ⟨o,q,fun j hj=>(ho.cell (p:=⟨fb,o+j,none⟩) (World.block_lt_of_cell? w _ (hc j hj)) (fun h=>h)).trans (hc j hj)⟩,hz.len⟩ hz1 hz2
  subst hA
  obtain ⟨fo,rfl,hfc⟩:=hz.at_ (by simp)
  have hf0:=hfc 0 (by simp)
  have hf1:=hfc 1 (by simp)
  rw [Nat.add_zero] at hf0
  simp only [List.getElem_cons_zero] at hf0
  simp only [List.getElem_cons_succ,List.getElem_cons_zero] at hf1
  have HFL:=hide (World.block_lt_of_cell? w _ hf0)
  have hn2:2≤X.ks.length:=by
    obtain ⟨lo,ho⟩:=hG.ok
    have:=(ho.two hG.kok hb (fun v=>by unfold brd at hs; rw [if_neg (by omega)] at hs; exact (decS_some hs).2.1) hf).1
    omega
  have HSP:Hid (∀ W,Only (fun _=>False) w W→Calls Tryz.prog 173 #[.agg #[.int .i64 a,.int .i64 3,.int .i64 X.lv,.int .i64 X.rt,.string (hiB X.hi),.slice ao X.items.length cp],.int .i64 page,.slice (some ⟨fb,fo,none⟩) 2 fc] W fun x w'=>Im3 W w' x X i j):=fun W ho=>bsplit_two W a page X i j B cp fb fo fc ao (hG.nm (hS.more ho)) hF hi hj hn2 hv ((ho.cell (p:=⟨fb,fo,none⟩) HFL.out (fun h=>h)).trans hf0) ((ho.cell (p:=⟨fb,fo+1,none⟩) HFL.out (fun h=>h)).trans hf1)
  have HLY:Hid (∀ (W:World) (base b c:Nat) (ao1 ao2 ao3:Option Addr) (cp1 cp2 cp3:Nat),W.ownsRow base 253 7 (.slice (some ⟨b,0,none⟩) 3 c) 3 (imc i ((X.left j).z 0 ao1 cp1)++imc j (X.right.z 0 ao2 cp2)++imc 1 ((X.over i j).z 0 ao3 cp3))→At W (fun q=>base≤q∧q≠b) ((X.left j).z 0 ao1 cp1)→At W (fun q=>base≤q∧q≠b) (X.right.z 0 ao2 cp2)→base≤W.heap.size→Calls Tryz.prog 174 #[.slice (some ⟨b,0,none⟩) 3 c,.string s] W fun x w'=>x=.returned (.int .i64 0)∧∃ ao1' cp1' ao2' cp2',w'.ownsRow base 253 7 (.slice (some ⟨b,0,none⟩) 3 c) 3 (imc i ((X.nl e k j).z 0 ao1' cp1')++imc j ((X.nr e k).z 0 ao2' cp2')++imc 1 ((X.over i j).z 0 ao3 cp3))∧At w' (fun q=>base≤q) ((X.nl e k j).z 0 ao1' cp1')∧At w' (fun q=>base≤q) ((X.nr e k).z 0 ao2' cp2')∧Only (fun q=>q=b) W w'):=fun W base b c ao1 ao2 ao3 cp1 cp2 cp3 r a1 a2 hb9=>by
    have hj':=okC_iff.1 hj
    exact lay_any W base b 3 c i j X j ao1 ao2 cp1 cp2 _ s e k (by omega) r hG (by omega) a1 a2 hs hb hf hb9
  rw [hfr] at HFR
  clear hG hS hF ha hz hz1 hz2 hN hi hj hfr hs hb hf hn2 hv hfc hf0 hf1
  simp only [List.length_cons,List.length_nil,Nat.zero_add,Nat.reduceAdd] at HFR ⊢
  obtain ⟨L,hL⟩:=exq ((X.lv:Int))
  obtain ⟨R,hR⟩:=exq ((X.rt:Int))
  obtain ⟨h,hh⟩:=exq (hiB X.hi)
  obtain ⟨n,hn⟩:=exq (X.items.length)
  rw [hL,hR,hh,hn] at HX HND HSP ⊢
  clear hL hR hh hn
  go_enter Tryz.func151,Tryz.ntmps151
  go_upto_region 1 with fail
  obtain ⟨W0,hW0⟩:=exq ((w.alloc (.cells #[.int .i64 a,.int .i64 3,.int .i64 L,.int .i64 R,.string h,.slice ao n cp] 37)).alloc (.cells Br.none.cells 50))
  rw [hW0] at HX ⊢
  clear hW0
  obtain ⟨p0,p1,p2,p3,p4,p5,_⟩:=HX.out.1
  go_wp2_with fail
  refine (HND.out _ HX.out.2.2).mono ?_
  rintro x w1 ⟨rfl,ho⟩
  have HP1:=hide (HX.out.1.more ho)
  have HR1:=hide (HX.out.2.1.more ho)
  have HO1:=hide (o2 HX.out.2.2 ho)
  clear ho p0 p1 p2 p3 p4 p5 HX HND
  go_wp2_with fail
  refine (HFR.out _ HO1.out).mono ?_
  rintro x w2 ⟨rfl,h4⟩
  obtain rfl:=h4.symm
  obtain ⟨p0,p1,p2,p3,p4,p5,_⟩:=HP1.out
  go_wp2_with fail
  refine (HSP.out _ HO1.out).mono ?_
  rintro x w3 ⟨b,c,ao1,cp1,ao2,cp2,ao3,cp3,rfl,hr2,hA1,hA2,hA3,ho2⟩
  have HR3:=hide (HR1.out.more ho2)
  have HO3:=hide (o2 HO1.out ho2)
  have HNW:Hid (w.heap.size+1 < w1.heap.size):=HR1.out.lt
  have HNB:Hid (w.heap.size+1 < b):=by
    have h1:=(World.ownsRow.lt hr2 b rfl).1
    have h2:=HR1.out.lt
    unfold Hid
    omega
  have HLY2:=hide (HLY.out _ _ _ _ _ _ _ _ _ _ hr2 hA1 hA2 ho2.size)
  have HA3:=hide hA3
  clear hr2 hA1 hA2 ho2 hA3 p0 p1 p2 p3 p4 p5 HSP HFR HLY HP1 HR1
  go_wp2_with fail
  refine HLY2.out.mono ?_
  rintro x w4 ⟨rfl,ao1',cp1',ao2',cp2',hr4,hA14,hA24,ho4⟩
  have HR4:=hide (HR3.out.kept ho4 (by have:=HNB.out; omega))
  have HO4:=hide (HO3.out.trans ho4 (fun i hi e=>by have:=HNB.out; omega))
  have HRW4:=hide (And.intro hr4 (And.intro hA14 hA24))
  have HA34:=hide (HA3.out.kept ho4 (fun q hq=>hq.2))
  clear hr4 hA14 hA24 ho4 HR3 HO3 HLY2
  go_wp2_with (refine wpList_build_split rfl (.tmp 58) rfl (some ⟨b,0,none⟩) 3 c rfl ?_; go_frame; refine wpList_put_br rfl (.tmp 8) (.tmp 59) rfl (w.heap.size+1) rfl Br.none.cl rfl ⟨5,0,⟨#[]⟩,some ⟨b,0,none⟩,3,c⟩ rfl HR4.out ?_; intro W9 HW9; go_frame)
  refine bodyPost_ret (results_br rfl rfl HW9.out.at_) rfl ?_
  have hw1:w.heap.size≤w1.heap.size:=HO1.out.size
  have hr9:=own_mono (own_keptJ HRW4.out.1 HW9.out.only (fun q hq e=>by simp [Value.ownBlock] at hq; have:=HNB.out; omega)) hw1
  have ha9:=(HRW4.out.2.1.kept HW9.out.only (fun q hq e=>by have:=HNW.out; omega)).mono (Q:=fun q=>w.heap.size≤q) (fun q hq=>Nat.le_trans hw1 hq)
  have hb9:=(HRW4.out.2.2.kept HW9.out.only (fun q hq e=>by have:=HNW.out; omega)).mono (Q:=fun q=>w.heap.size≤q) (fun q hq=>Nat.le_trans hw1 hq)
  have ho9:=HO4.out.trans HW9.out.only (fun i hi e=>by omega)
  have hc9:=(HA34.out.kept HW9.out.only (fun q hq e=>by have:=HNW.out; have:=hq.1; omega)).mono (Q:=fun q=>w.heap.size≤q) (fun q hq=>Nat.le_trans hw1 hq.1)
  exact ⟨b,c,ao1',cp1',ao2',cp2',ao3,cp3,rfl,hr9,ha9,hb9,hc9,ho9⟩
def Nd.way (X:Nd) (v:Nat) (e:En):Int × Bool:=if byd X.hi e=true then (X.rt,false) else if X.lv=v then (0,true) else (chK X.ks e,false)
set_option maxHeartbeats 3200000 in
theorem way_nd (w:World) (a:Int) (X:Nd) (v:Nat) (e:En) (B cp:Nat) (ao:Option Addr) (hP:Nm w X B ao) (ha:0≤a∧a < 9223372036854775808) (he:e.ok=true) (hv:v≤X.lv) :
    Calls Tryz.prog 28 #[.agg #[.int .i64 a,.int .i64 3,.int .i64 X.lv,.int .i64 X.rt,.string (hiB X.hi),.slice ao X.items.length cp],.int .i64 v,e.agg] w fun x w'=>x=.returned (.tuple #[.int .i64 (X.way v e).1,.bool (X.way v e).2,.int .i64 0])∧Only (fun _=>False) w w':=by
  have HX:=hide (pe_new w (.int .i64 a) (.int .i64 3) (.int .i64 X.lv) (.int .i64 X.rt) (.string (hiB X.hi)) (.slice ao X.items.length cp) e)
  have HCK:Hid (∀ W,Only (fun _=>False) w W→Calls Tryz.prog 52 #[.agg #[.int .i64 a,.int .i64 3,.int .i64 X.lv,.int .i64 X.rt,.string (hiB X.hi),.slice ao X.items.length cp]] W fun x w'=>x=.returned (.int .i64 0)∧Only (fun _=>False) W w'):=fun W ho=>check_nd W a X B cp ao (hP.more ho) ha
  have HBY:Hid (∀ W,Only (fun _=>False) w W→Calls Tryz.prog 53 #[.agg #[.int .i64 a,.int .i64 3,.int .i64 X.lv,.int .i64 X.rt,.string (hiB X.hi),.slice ao X.items.length cp],.agg #[.string e.key,.int .i64 e.page,.int .i64 e.slot]] W fun x w'=>x=.returned (.tuple #[.bool (byd X.hi e),.int .i64 0])∧Only (fun _=>False) W w'):=fun W ho=>by
    have h:=beyond_nd W a X e B cp ao (hP.more ho)
    unfold byV at h
    rw [if_pos he] at h
    exact h
  have HCH:Hid (0 < X.lv→byd X.hi e=false→∀ W,Only (fun _=>False) w W→Calls Tryz.prog 54 #[.agg #[.int .i64 a,.int .i64 3,.int .i64 X.lv,.int .i64 X.rt,.string (hiB X.hi),.slice ao X.items.length cp],.agg #[.string e.key,.int .i64 e.page,.int .i64 e.slot]] W fun x w'=>x=.returned (.tuple #[.int .i64 (chK X.ks e),.int .i64 0])∧Only (fun _=>False) W w'):=fun v0 hb W ho=>by
    have h:=child_ok W a X.lv X.rt (hiB X.hi) X.hi e B cp ao X.items X.ks ((hP.more ho).ip v0)
    unfold chV at h
    rw [if_pos ⟨he,hb⟩] at h
    exact h
  have hv1:¬ (v:Int) < 0:=by omega
  have hv2:¬ (X.lv:Int) < (v:Int):=by omega
  obtain ⟨⟨N,T⟩,hNT⟩:∃ q,X.way v e=q:=⟨_,rfl⟩
  rw [hNT]
  have HNT:=hide hNT
  unfold Nd.way at HNT
  have HLV:Hid (X.lv=v∨(0 < X.lv∧¬ X.lv=v)):=by unfold Hid; omega
  clear hP ha he hNT
  obtain ⟨C,hC⟩:=exq (chK X.ks e)
  rw [hC] at HCH HNT
  obtain ⟨Y,hY⟩:=exq (byd X.hi e)
  rw [hY] at HCH HNT HBY
  obtain ⟨R,hR⟩:=exq ((X.rt:Int))
  obtain ⟨h,hh⟩:=exq (hiB X.hi)
  obtain ⟨n,hn⟩:=exq (X.items.length)
  rw [hR,hh,hn] at HX HCK HBY HCH ⊢
  rw [hR] at HNT
  clear hR hh hn hC hY
  obtain ⟨L,hL⟩:=exq (X.lv)
  rw [hL] at HX HCK HBY HCH HNT HLV hv hv2 ⊢
  clear hL
  unfold En.agg
  simp only []
  go_enter Tryz.func28,Tryz.ntmps28
  go_upto_region 1 with fail
  obtain ⟨W0,hW0⟩:=exq ((w.alloc (.cells #[.int .i64 a,.int .i64 3,.int .i64 L,.int .i64 R,.string h,.slice ao n cp] 37)).alloc (.cells #[.string e.key,.int .i64 e.page,.int .i64 e.slot] 89))
  rw [hW0] at HX ⊢
  clear hW0
  obtain ⟨p0,p1,p2,p3,p4,p5,_⟩:=HX.out.1
  go_wp2_with fail
  refine (HCK.out _ HX.out.2.2).mono ?_
  rintro x w1 ⟨rfl,ho⟩
  have HP1:=hide (HX.out.1.more ho)
  have HV1:=hide (HX.out.2.1.more ho)
  have HO1:=hide (o2 HX.out.2.2 ho)
  clear ho p0 p1 p2 p3 p4 p5 HX HCK
  obtain ⟨p0,p1,p2,p3,p4,p5,_⟩:=HP1.out
  obtain ⟨d0,d1,d2,_⟩:=HV1.out
  go_wp2_with fail
  refine (HBY.out _ HO1.out).mono ?_
  rintro x w2 ⟨rfl,ho⟩
  have HP2:=hide (HP1.out.more ho)
  have HV2:=hide (HV1.out.more ho)
  have HO2:=hide (o2 HO1.out ho)
  clear ho p0 p1 p2 p3 p4 p5 d0 d1 d2 HP1 HV1 HO1 HBY
  obtain ⟨p0,p1,p2,p3,p4,p5,_⟩:=HP2.out
  cases Y with
  | true=>
    have HN2:Hid (N=R∧T=false):=by
      have q:=HNT.out
      rw [if_pos rfl,Prod.mk.injEq] at q
      exact ⟨q.1.symm,q.2.symm⟩
    clear HNT HCH
    go_wp2_with fail
    go_ret3
    obtain ⟨rfl,rfl⟩:=HN2.out
    exact ⟨rfl,HO2.out⟩
  | false=>
    rw [if_neg (by decide)] at HNT
    rcases HLV.out with q | ⟨q1,q2⟩
    · have HN2:Hid (N=0∧T=true):=by
        have z:=HNT.out
        rw [if_pos q,Prod.mk.injEq] at z
        exact ⟨z.1.symm,z.2.symm⟩
      clear HNT HCH HLV
      have hq:((L:Int) == (v:Int))=true:=by rw [q]; simp
      clear q
      go_wp2_with fail
      go_ret3
      obtain ⟨rfl,rfl⟩:=HN2.out
      exact ⟨rfl,HO2.out⟩
    · have HN2:Hid (N=C∧T=false):=by
        have z:=HNT.out
        rw [if_neg q2,Prod.mk.injEq] at z
        exact ⟨z.1.symm,z.2.symm⟩
      have HCH2:=hide (HCH.out q1 rfl)
      clear HNT HCH HLV
      have hq:((L:Int) == (v:Int))=false:=by simpa using (fun z:(L:Int)=(v:Int)=>q2 (by omega))
      clear q1 q2
      obtain ⟨d0,d1,d2,_⟩:=HV2.out
      go_wp2_with fail
      refine (HCH2.out _ HO2.out).mono ?_
      rintro x w3 ⟨rfl,ho⟩
      have HO3:=hide (o2 HO2.out ho)
      clear ho
      go_wp2_with fail
      go_ret3
      obtain ⟨rfl,rfl⟩:=HN2.out
      exact ⟨rfl,HO3.out⟩
theorem entriesOf_nd (w:World) (a:Int) (X:Nd) (B cp:Nat) (ao:Option Addr) (hP:Nm w X B ao) (ha:0≤a∧a < 9223372036854775808) (hv:X.lv=0) :
    Calls Tryz.prog 132 #[.agg #[.int .i64 a,.int .i64 3,.int .i64 0,.int .i64 X.rt,.string (hiB X.hi),.slice ao X.items.length cp]] w fun x w'=>EnR w w' x X.es:=by
  have HP:=hide (Pag.new w (.int .i64 a) (.int .i64 3) (.int .i64 0) (.int .i64 X.rt) (.string (hiB X.hi)) (.slice ao X.items.length cp))
  have HO:=hide (onlyA w (.cells #[.int .i64 a,.int .i64 3,.int .i64 0,.int .i64 X.rt,.string (hiB X.hi),.slice ao X.items.length cp] 37))
  have HCK:Hid (∀ W,Only (fun _=>False) w W→Calls Tryz.prog 52 #[.agg #[.int .i64 a,.int .i64 3,.int .i64 0,.int .i64 X.rt,.string (hiB X.hi),.slice ao X.items.length cp]] W fun x w'=>x=.returned (.int .i64 0)∧Only (fun _=>False) W w'):=fun W ho=>by
    have h:=check_nd W a X B cp ao (hP.more ho) ha
    rw [hv,Int.ofNat_zero] at h
    exact h
  have HEN:Hid (∀ W,Only (fun _=>False) w W→Calls Tryz.prog 101 #[.agg #[.int .i64 a,.int .i64 3,.int .i64 0,.int .i64 X.rt,.string (hiB X.hi),.slice ao X.items.length cp]] W fun x w'=>EnR W w' x X.es):=fun W ho=>entries_ok W a X.rt (hiB X.hi) X.hi B cp ao X.items X.es ((hP.more ho).lp hv)
  clear hP ha hv
  obtain ⟨R,hR⟩:=exq ((X.rt:Int))
  obtain ⟨h,hh⟩:=exq (hiB X.hi)
  obtain ⟨n,hn⟩:=exq (X.items.length)
  rw [hR,hh,hn] at HP HO HCK HEN ⊢
  clear hR hh hn
  go_enter Tryz.func132,Tryz.ntmps132
  go_upto_region 1 with fail
  obtain ⟨W0,hW0⟩:=exq (w.alloc (.cells #[.int .i64 a,.int .i64 3,.int .i64 0,.int .i64 R,.string h,.slice ao n cp] 37))
  rw [hW0] at HP HO ⊢
  clear hW0
  obtain ⟨p0,p1,p2,p3,p4,p5,_⟩:=HP.out
  go_wp2_with fail
  refine (HCK.out _ HO.out).mono ?_
  rintro x w1 ⟨rfl,ho⟩
  have HP1:=hide (HP.out.more ho)
  have HO1:=hide (o2 HO.out ho)
  clear ho p0 p1 p2 p3 p4 p5 HP HO HCK
  obtain ⟨p0,p1,p2,p3,p4,p5,_⟩:=HP1.out
  go_wp2_with fail
  refine (HEN.out _ HO1.out).mono ?_
  rintro x w2 ⟨A,C,rfl,hE,ho⟩
  have HE2:=hide (hE.base HO1.out.size)
  have HO2:=hide (o2 HO1.out ho)
  clear hE ho
  go_wp2_with fail
  go_ret2
  exact ⟨A,C,rfl,HE2.out,HO2.out⟩
theorem ba_ne0 {t:ByteArray} (h:¬ t=⟨#[]⟩):t.toList.isEmpty=false:=by
  rw [ByteArray.toList_eq]
  cases q:t.data.toList with
  | nil=>exact absurd (by cases t; simp at q; rw [q]) h
  | cons a l=>rfl
def below (k t:ByteArray):Bool:=decide (t=⟨#[]⟩) || decide (bl k < bl t)
theorem isBelowB_any (w:World) (k t:ByteArray):Calls Tryz.prog 133 #[.string k,.string t] w fun x w'=>x=.returned (.bool (below k t))∧w'=w:=by
  unfold below
  by_cases h:t=⟨#[]⟩
  · subst h
    go_enter Tryz.func133,Tryz.ntmps133
    go_wp2_with fail
    go_ret
    exact ⟨ret_bool (by simp),rfl⟩
  · have e:=ba_neN h
    have e3:=ba_ne0 h
    rw [decide_eq_false h,Bool.false_or,← bless_lt]
    clear h
    go_enter Tryz.func133,Tryz.ntmps133
    go_wp2_with fail
    go_ret
    exact ⟨rfl,rfl⟩
def Nd.goOn (X:Nd) (t:ByteArray):Bool:=decide (t=⟨#[]⟩) || (!decide (X.hi=noE) && decide (bl X.hi.key < bl t))
set_option maxHeartbeats 1600000 in
theorem mayGoOn_nd (w:World) (a l r:Int) (X:Nd) (t:ByteArray) (ao:Option Addr) (n cp:Nat) (lo:En) (hh:X.hi=noE∨(X.hi.ok=true∧lo.lt X.hi)) :
    Calls Tryz.prog 134 #[.agg #[.int .i64 a,.int .i64 3,.int .i64 l,.int .i64 r,.string (hiB X.hi),.slice ao n cp],.string t] w fun x w'=>x=.returned (.bool (X.goOn t))∧Only (fun _=>False) w w':=by
  have HP:=hide (Pag.new w (.int .i64 a) (.int .i64 3) (.int .i64 l) (.int .i64 r) (.string (hiB X.hi)) (.slice ao n cp))
  have HO:=hide (onlyA w (.cells #[.int .i64 a,.int .i64 3,.int .i64 l,.int .i64 r,.string (hiB X.hi),.slice ao n cp] 37))
  obtain ⟨G,hG⟩:=exq (X.goOn t)
  rw [hG]
  have HG:=hide hG
  unfold Nd.goOn at HG
  clear hG
  have HD:Hid (∀ W,Calls Tryz.prog 99 #[.string (hiB X.hi)] W fun x w'=>x=.returned (.tuple #[.agg #[.string X.hi.key,.int .i64 X.hi.page,.int .i64 X.hi.slot],.int .i64 (if X.hi=noE then 140 else 0)])∧Only (fun _=>False) W w'):=fun W=>by
    have h:=decode_any (hiB X.hi) W
    by_cases z:X.hi=noE
    · have e:hiB X.hi=⟨#[]⟩:=by rw [z]; rfl
      rw [if_pos z]
      rw [e] at h ⊢
      have q:decE (bl ⟨#[]⟩)=none:=by decide
      rw [q] at h
      rw [z]
      exact h
    · rw [if_neg z]
      have o:X.hi.ok=true:=by rcases hh with y | y; exact absurd y z; exact y.1
      rw [hiB_ok o] at h ⊢
      rw [show decE (bl X.hi.enc)=some X.hi from decE_lay o] at h
      exact h
  clear hh
  obtain ⟨h,hh⟩:=exq (hiB X.hi)
  rw [hh] at HP HO HD ⊢
  clear hh
  by_cases ht:t=⟨#[]⟩
  · have HG2:Hid (G=true):=by
      have:=HG.out
      rw [decide_eq_true ht,Bool.true_or] at this
      exact this.symm
    subst ht
    clear HG HD
    go_enter Tryz.func134,Tryz.ntmps134
    go_wp2_with fail
    go_ret
    exact ⟨ret_bool HG2.out.symm,HO.out⟩
  · have e:=ba_neN ht
    have e3:=ba_ne0 ht
    rw [decide_eq_false ht,Bool.false_or] at HG
    clear ht
    go_enter Tryz.func134,Tryz.ntmps134
    go_upto_region 1 with fail
    obtain ⟨W0,hW0⟩:=exq (w.alloc (.cells #[.int .i64 a,.int .i64 3,.int .i64 l,.int .i64 r,.string h,.slice ao n cp] 37))
    rw [hW0] at HP HO ⊢
    clear hW0
    have p4:=HP.out.c4
    by_cases z:X.hi=noE
    · rw [if_pos z] at HD
      have HG2:Hid (G=false):=by
        have:=HG.out
        rw [decide_eq_true z] at this
        unfold Hid
        simpa using this.symm
      clear HG z
      go_wp2_with fail
      refine (HD.out _).mono ?_
      rintro x w1 ⟨rfl,ho⟩
      have HO1:=hide (o2 HO.out ho)
      clear ho
      go_wp2_with fail
      go_ret
      exact ⟨ret_bool HG2.out.symm,o2 HO1.out (onlyA _ _)⟩
    · rw [if_neg z] at HD
      rw [decide_eq_false z] at HG
      clear z
      go_wp2_with fail
      refine (HD.out _).mono ?_
      rintro x w1 ⟨rfl,ho⟩
      have HO1:=hide (o2 HO.out ho)
      clear ho
      go_wp2_with fail
      go_ret
      exact ⟨ret_bool (by have:=HG.out; rw [bless_lt]; simpa using this),o2 HO1.out (onlyA _ _)⟩
def hitB (f t:ByteArray) (e:En):Bool:=!decide (bl e.key < bl f) && below e.key t
def HtR (w w':World) (x:Ending) (X:Nd) (f t:ByteArray):Prop:=∃ A C,x=.returned (.tuple #[.slice A (X.es.filter (hitB f t)).length C,.bool (decide (X.rt≠0) && X.goOn t),.int .i64 0])∧Ets w' w.heap.size (.slice A (X.es.filter (hitB f t)).length C) (X.es.filter (hitB f t))∧Only (fun _=>False) w w'
theorem filter_snoc {es:List En} {p:En→Bool} {j:Nat} (h:j < es.length):(es.take (j+1)).filter p=(es.take j).filter p++(if p es[j]=true then [es[j]] else []):=by
  rw [List.take_succ_eq_append_getElem h,List.filter_append]
  congr 1
  by_cases z:p es[j]=true
  · rw [if_pos z]; simp [z]
  · rw [if_neg z]; simp [z]
set_option maxHeartbeats 3200000 in
theorem hits_nd (w:World) (a:Int) (X:Nd) (f t:ByteArray) (B cp:Nat) (ao:Option Addr) (hP:Nm w X B ao) (ha:0≤a∧a < 9223372036854775808) (hv:X.lv=0) :
    Calls Tryz.prog 93 #[.agg #[.int .i64 a,.int .i64 3,.int .i64 0,.int .i64 X.rt,.string (hiB X.hi),.slice ao X.items.length cp],.string f,.string t] w fun x w'=>HtR w w' x X f t:=by
  have HP:=hide (Pag.new w (.int .i64 a) (.int .i64 3) (.int .i64 0) (.int .i64 X.rt) (.string (hiB X.hi)) (.slice ao X.items.length cp))
  have HO:=hide (onlyA w (.cells #[.int .i64 a,.int .i64 3,.int .i64 0,.int .i64 X.rt,.string (hiB X.hi),.slice ao X.items.length cp] 37))
  have HEO:Hid (∀ W,Only (fun _=>False) w W→Calls Tryz.prog 132 #[.agg #[.int .i64 a,.int .i64 3,.int .i64 0,.int .i64 X.rt,.string (hiB X.hi),.slice ao X.items.length cp]] W fun x w'=>EnR W w' x X.es):=fun W ho=>entriesOf_nd W a X B cp ao (hP.more ho) ha hv
  have HMG:Hid (∀ W,Calls Tryz.prog 134 #[.agg #[.int .i64 a,.int .i64 3,.int .i64 0,.int .i64 X.rt,.string (hiB X.hi),.slice ao X.items.length cp],.string t] W fun x w'=>x=.returned (.bool (X.goOn t))∧Only (fun _=>False) W w'):=fun W=>by
    obtain ⟨lo,ho⟩:=hP.ok
    exact mayGoOn_nd W a 0 X.rt X t ao X.items.length cp lo ho.hiok
  have HBL:=hide (fun (k:ByteArray) (W:World)=>isBelowB_any W k t)
  have hes82:X.es.length≤82:=by rw [Nd.es_len]; exact hP.few
  have HRT:Hid (decide (X.rt≠0)=!((X.rt:Int) == 0)):=by
    unfold Hid
    by_cases z:X.rt=0
    · rw [z]; rfl
    · have:((X.rt:Int) == 0)=false:=by simpa using (by omega:¬ (X.rt:Int)=0)
      rw [this]; simpa using z
  clear hP ha hv
  unfold HtR
  obtain ⟨es,hes⟩:=exq (X.es)
  obtain ⟨R,hR⟩:=exq ((X.rt:Int))
  obtain ⟨h,hh⟩:=exq (hiB X.hi)
  obtain ⟨n,hn⟩:=exq (X.items.length)
  obtain ⟨M,hM⟩:=exq (X.goOn t)
  rw [hR,hh,hn] at HP HO HEO HMG ⊢
  rw [HRT.out,hR,hM,hes]
  rw [hes] at HEO hes82
  rw [hM] at HMG
  clear hes hR hh hn hM HRT
  obtain ⟨Z,hZ⟩:=exq ((!(R == 0) && M))
  rw [hZ]
  have HZ:=hide hZ
  clear hZ
  go_enter Tryz.func93,Tryz.ntmps93
  go_upto_region 1 with fail
  obtain ⟨W0,hW0⟩:=exq (w.alloc (.cells #[.int .i64 a,.int .i64 3,.int .i64 0,.int .i64 R,.string h,.slice ao n cp] 37))
  rw [hW0] at HP HO ⊢
  clear hW0
  obtain ⟨p0,p1,p2,p3,p4,p5,_⟩:=HP.out
  go_wp2_with fail
  refine (HEO.out _ HO.out).mono ?_
  rintro x w1 ⟨A,C,rfl,hE,ho⟩
  have HP1:=hide (HP.out.more ho)
  have HO1:=hide (o2 HO.out ho)
  obtain ⟨Be,hels,_⟩:=hE.elsOf
  have HE1:=hide hels
  clear ho hE hels p0 p1 p2 p3 p4 p5 HP HO HEO
  go_upto_region 6 with fail
  go_loopw [11,24] (fun v i wr=>∃ (j:Nat),j≤es.length∧i=.int .i64 (j:Int)∧Hid (Ets wr w1.heap.size v ((es.take j).filter (hitB f t)))∧Hid (Only (fun _=>False) w1 wr)) (fun _ i _=>es.length - (intOf i).toNat)
  case atStart=>exact ⟨0,Nat.zero_le _,rfl,hide (Ets.nil _ _),hide (Only.refl _ _)⟩
  case round=>
    obtain ⟨j,hj,rfl,HX,HW⟩:=hrel
    have HP2:=hide (HP1.out.more HW.out)
    by_cases hlt:j < es.length
    · obtain ⟨o,rfl,heb⟩:=(HE1.out.kept HW.out (fun _ h=>h)).of j hlt
      have HFS:=hide (filter_snoc (p:=hitB f t) hlt)
      have hfl:((es.take j).filter (hitB f t)).length≤82:=by
        have h1:=List.length_filter_le (hitB f t) (es.take j)
        rw [List.length_take] at h1
        omega
      obtain ⟨e,he⟩:=exq (es[j])
      rw [he] at heb HFS
      clear he
      obtain ⟨e0,e1,e2,_⟩:=heb
      have hlk:(j:Int) < (es.length:Int):=by omega
      have hlk2:¬ (es.length:Int)≤(j:Int):=by omega
      go_upto_region 8 with fail
      have HA:=hide (onlyA wr (.cells #[.string e.key,.int .i64 e.page,.int .i64 e.slot] 89))
      have HV:=hide (Ev.new wr e)
      obtain ⟨w2,hw2⟩:=exq (wr.alloc (.cells #[.string e.key,.int .i64 e.page,.int .i64 e.slot] 89))
      rw [hw2] at HA HV ⊢
      clear hw2
      obtain ⟨cb,hcb⟩:=exq (wr.heap.size)
      rw [hcb] at HV ⊢
      clear hcb e0 e1 e2
      have HX2:=hide (HX.out.more HA.out)
      have HW2:=hide (o2 HW.out HA.out)
      clear HA
      obtain ⟨d0,d1,d2,_⟩:=HV.out
      have hbl:=bless_lt (a:=e.key) (b:=f)
      have HB1:=hide (HBL.out e.key)
      have HHB:Hid (hitB f t e=(!decide (bl e.key < bl f) && below e.key t)):=rfl
      obtain ⟨G,hG⟩:=exq (decide (bl e.key < bl f))
      obtain ⟨T,hT⟩:=exq (below e.key t)
      rw [hG] at hbl HHB
      rw [hT] at HB1 HHB
      clear hG hT
      cases G with
      | true=>
        rw [show hitB f t e=false by rw [HHB.out]; rfl,if_neg (by decide),List.append_nil] at HFS
        rw [← HFS.out] at HX2
        clear HHB HFS HB1 HX
        go_wp2_with fail
        go_roundw
        case rel=>exact ⟨j+1,by omega,by go_num,HX2,HW2⟩
        case measure=>simp [intOf]; omega
      | false=>
        cases T with
        | false=>
          rw [show hitB f t e=false by rw [HHB.out]; rfl,if_neg (by decide),List.append_nil] at HFS
          rw [← HFS.out] at HX2
          clear HHB HFS HX
          go_wp2_with fail
          refine (HB1.out _).mono ?_
          rintro x w3 ⟨rfl,h4⟩
          obtain rfl:=h4.symm
          go_wp2_with fail
          go_roundw
          case rel=>exact ⟨j+1,by omega,by go_num,HX2,HW2⟩
          case measure=>simp [intOf]; omega
        | true=>
          rw [show hitB f t e=true by rw [HHB.out]; rfl,if_pos rfl] at HFS
          clear HHB HX
          go_wp2_with fail
          refine (HB1.out _).mono ?_
          rintro x w3 ⟨rfl,h4⟩
          obtain rfl:=h4.symm
          obtain ⟨A3,C3,w4,hr4,he4,ho4,_⟩:=ets_append (w2.alloc (.cells #[.string e.key,.int .i64 e.page,.int .i64 e.slot] 89)) w1.heap.size _ _ (HX2.out.more (onlyA _ _)) w2.heap.size 0 1 1 [e] rfl (fun q hq=>by
            have:q=0:=by simpa using hq
            subst this
            have h:=Ev.new w2 e
            exact ⟨h.c0,h.c1,h.c2,h.lt⟩) (by omega) (Nat.le_trans HW2.out.size (onlyA _ _).size)
          rw [← HFS.out] at he4
          have HX4:=hide he4
          have HW4:Hid (Only (fun _=>False) w1 w4):=(o2 HW2.out (onlyA _ _)).trans ho4 (fun i hi q=>by have:=(World.ownsRow.lt HX2.out i q).1; omega)
          have HR4:=hide hr4
          clear hr4 he4 ho4
          go_wp2_with (at_builtin; go_must (refine Lib.wpList_append_run _ rfl _ _ _ _ rfl _ _ rfl rfl _ _ HR4.out ?_))
          go_roundw
          case rel=>exact ⟨j+1,by omega,by go_num,HX4,HW4⟩
          case measure=>simp [intOf]; omega
    · have hlk:¬ (j:Int) < (es.length:Int):=by omega
      have ej:j=es.length:=by omega
      subst ej
      rw [List.take_length] at HX
      obtain ⟨p0,p1,p2,p3,p4,p5,_⟩:=HP2.out
      obtain ⟨A9,C9,hA9⟩:=HX.out.form
      subst hA9
      have HX9:=hide (HX.out.base HO1.out.size)
      have HO9:=hide (o2 HO1.out HW.out)
      clear HX HBL HE1
      by_cases hR0:R=0
      · subst hR0
        have HZ2:Hid (Z=false):=HZ.out.symm
        clear HMG HZ
        go_wp2_with fail
        go_ret3
        obtain rfl:=HZ2.out
        exact ⟨A9,C9,rfl,HX9.out,HO9.out⟩
      · have hR1:(R == 0)=false:=by simpa using hR0
        have HZ2:Hid (Z=M):=by
          have:=HZ.out
          rw [hR1] at this
          exact this.symm
        clear HZ
        go_wp2_with fail
        refine (HMG.out _).mono ?_
        rintro x w3 ⟨rfl,ho⟩
        have HX10:=hide (HX9.out.more ho)
        have HO10:=hide (o2 HO9.out ho)
        clear ho
        go_wp2_with fail
        go_ret3
        obtain rfl:=HZ2.out
        refine ⟨A9,C9,?_,HX10.out,HO10.out⟩
        simp only [Array.getD,List.size_toArray,List.length_cons,List.length_nil]
        simp
        exact fun _=>hR0
end Go.Proofs.YtajjakljheafjaaGreat
