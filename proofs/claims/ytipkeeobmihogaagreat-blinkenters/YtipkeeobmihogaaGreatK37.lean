/- Parts. -/
import Derived.Test.YtipkeeobmihogaaGreatK28
import Derived.Test.YtipkeeobmihogaaGreatK19
set_option maxRecDepth 100000
namespace Go.Proofs.YtipkeeobmihogaaGreat
open Go.RowKit
theorem Gd.left {X:Nd} (h:Gd X) (hn:2≤X.ks.length) {j:Nat} (hj:j≤65535):Gd (X.left j):=by
  obtain ⟨lo,ho⟩:=h.ok
  exact ⟨h.lvl,hj,⟨lo,ho.left h.kok hn j⟩,Nm.kokL h.kok j⟩
theorem Gd.right {X:Nd} (h:Gd X) (hn:2≤X.ks.length):Gd X.right:=by
  obtain ⟨lo,ho⟩:=h.ok
  exact ⟨h.lvl,h.rt,⟨X.bord,ho.right h.kok hn⟩,Nm.kokR h.kok hn⟩
theorem lay_any (w:World) (base b n c:Nat) (m1 m2:Int) (X:Nd) (j:Nat) (ao1 ao2:Option Addr) (cp1 cp2:Nat) (C3:List Value) (s:ByteArray) (e:En) (k:Int) (hn:2≤n) (hr:w.ownsRow base 65 7 (.slice (some ⟨b,0,none⟩) n c) n (imc m1 ((X.left j).z 0 ao1 cp1)++imc m2 (X.right.z 0 ao2 cp2)++C3)) (hG:Gd X) (hj:j≤65535) (hA1:At w (fun q=>base≤q∧q≠b) ((X.left j).z 0 ao1 cp1)) (hA2:At w (fun q=>base≤q∧q≠b) (X.right.z 0 ao2 cp2)) (hs:brd X.lv s=some (e,k)) (hb:¬ X.bad e) (hf:512 < (X.ins e k).size) (hbase:base≤w.heap.size) :
    Calls Tryz.prog 19 #[.slice (some ⟨b,0,none⟩) n c,.string s] w fun x w'=>x=.returned (.int .i64 0)∧∃ ao1' cp1' ao2' cp2',w'.ownsRow base 65 7 (.slice (some ⟨b,0,none⟩) n c) n (imc m1 ((X.nl e k j).z 0 ao1' cp1')++imc m2 ((X.nr e k).z 0 ao2' cp2')++C3)∧At w' (fun q=>base≤q) ((X.nl e k j).z 0 ao1' cp1')∧At w' (fun q=>base≤q) ((X.nr e k).z 0 ao2' cp2')∧Only (fun q=>q=b) w w':=by
  obtain ⟨lo,ho⟩:=hG.ok
  have hc:0 < X.lv→okC k=true:=fun v=>by
    unfold brd at hs
    rw [if_neg (by omega)] at hs
    exact (decS_some hs).2.1
  have h2:2≤X.ks.length:=by have:=(ho.two hG.kok hb hc hf).1; omega
  have he:=(Nd.good hb).1
  unfold Nd.nl Nd.nr
  by_cases y:byd X.bord e=true
  · obtain ⟨q1,q2⟩:=ho.fitsR hG.kok hb hc hf
    rw [if_pos y,if_pos y]
    refine (layInto_right w base b n c m1 m2 (X.left j) X.right ao1 ao2 cp1 cp2 C3 s e k _ hn hr (hG.left h2 hj) (hG.right h2) hA1 hA2 rfl hs he y q1 q2).mono ?_
    rintro x w' ⟨rfl,ao',cp',r1,r2,r3⟩
    exact ⟨rfl,ao1,cp1,ao',cp',r1,(hA1.kept r3 (fun q hq=>hq.2)).mono (fun q hq=>hq.1),r2.mono (fun q hq=>Nat.le_trans hbase hq),r3⟩
  · have y':byd X.bord e=false:=by cases z:byd X.bord e; rfl; exact absurd z y
    obtain ⟨q1,q2⟩:=ho.fitsL hG.kok hb hc hf y' j
    rw [if_neg y,if_neg y]
    refine (layInto_left w base b n c m1 m2 (X.left j) X.right ao1 ao2 cp1 cp2 C3 s e k _ hn hr (hG.left h2 hj) hA1 hs he y' q1 q2).mono ?_
    rintro x w' ⟨rfl,ao',cp',r1,r2,r3⟩
    exact ⟨rfl,ao',cp',ao2,cp2,r1,r2.mono (fun q hq=>Nat.le_trans hbase hq),(hA2.kept r3 (fun q hq=>hq.2)).mono (fun q hq=>hq.1),r3⟩
theorem en_new (w:World) (v0 v1 v2 v3 v4 v5:Value):Pag ((w.alloc (.cells #[v0,v1,v2,v3,v4,v5] 24)).alloc (.cells Br.none.cells 36)) w.heap.size v0 v1 v2 v3 v4 v5∧Rg ((w.alloc (.cells #[v0,v1,v2,v3,v4,v5] 24)).alloc (.cells Br.none.cells 36)) (w.heap.size+1) 0 Br.none.cl∧Only (fun _=>False) w ((w.alloc (.cells #[v0,v1,v2,v3,v4,v5] 24)).alloc (.cells Br.none.cells 36)):=by
  refine ⟨(Pag.new w v0 v1 v2 v3 v4 v5).more (onlyA _ _),?_,o2 (onlyA _ _) (onlyA _ _)⟩
  have e1:=Rg.new (w.alloc (.cells #[v0,v1,v2,v3,v4,v5] 24)) Br.none.cells 36
  rw [World.size_alloc] at e1
  exact e1
def En1 (w w':World) (x:Ending) (p:Int) (X:Nd) (j:Nat) (e:En) (k:Int):Prop :=
  ∃ b ao1 cp1 ao2 cp2,x=.returned (.tuple #[.agg (Br.cells ⟨5,0,⟨#[]⟩,some ⟨b,0,none⟩,2,2⟩),.int .i64 0])∧w'.ownsRow w.heap.size 65 7 (.slice (some ⟨b,0,none⟩) 2 2) 2 (imc p ((X.nl e k j).z 0 ao1 cp1)++imc j ((X.nr e k).z 0 ao2 cp2))∧At w' (fun q=>w.heap.size≤q) ((X.nl e k j).z 0 ao1 cp1)∧At w' (fun q=>w.heap.size≤q) ((X.nr e k).z 0 ao2 cp2)∧Only (fun _=>False) w w'
def En2 (w w':World) (x:Ending) (X:Nd) (i j:Nat) (e:En) (k:Int):Prop :=
  ∃ b c ao1 cp1 ao2 cp2 ao3 cp3,x=.returned (.tuple #[.agg (Br.cells ⟨5,0,⟨#[]⟩,some ⟨b,0,none⟩,3,c⟩),.int .i64 0])∧w'.ownsRow w.heap.size 65 7 (.slice (some ⟨b,0,none⟩) 3 c) 3 (imc i ((X.nl e k j).z 0 ao1 cp1)++imc j ((X.nr e k).z 0 ao2 cp2)++imc 1 ((X.over i j).z 0 ao3 cp3))∧At w' (fun q=>w.heap.size≤q) ((X.nl e k j).z 0 ao1 cp1)∧At w' (fun q=>w.heap.size≤q) ((X.nr e k).z 0 ao2 cp2)∧At w' (fun q=>w.heap.size≤q) ((X.over i j).z 0 ao3 cp3)∧Only (fun _=>False) w w'
set_option maxHeartbeats 3200000 in
theorem enter_err (w:World) (a page:Int) (X:Nd) (s:ByteArray) (B cp:Nat) (ao:Option Addr) (zs:List Int) (fc:Nat) (fa:Option Addr) (hG:Gd X) (hS:Strs w B ao X.items) (hF:Fit ao X.items.length cp) (ha:0≤a∧a < 9223372036854775808) (N E:Int) (hN:X.need page (brd X.lv s)=(N,E)) (hE:¬ E=0) :
    Calls Tryz.prog 6 #[.agg #[.int .i64 a,.int .i64 3,.int .i64 X.lv,.int .i64 X.rt,.string (hiB X.hi),.slice ao X.items.length cp],.int .i64 page,.string s,.slice fa zs.length fc] w fun x w'=>x=.returned (.tuple #[.agg Br.none.cells,.int .i64 E])∧Only (fun _=>False) w w':=by
  have HX:=hide (en_new w (.int .i64 a) (.int .i64 3) (.int .i64 X.lv) (.int .i64 X.rt) (.string (hiB X.hi)) (.slice ao X.items.length cp))
  have HND:Hid (∀ W,Only (fun _=>False) w W→Calls Tryz.prog 4 #[.agg #[.int .i64 a,.int .i64 3,.int .i64 X.lv,.int .i64 X.rt,.string (hiB X.hi),.slice ao X.items.length cp],.int .i64 page,.string s] W fun x w'=>x=.returned (.tuple #[.int .i64 (X.need page (brd X.lv s)).1,.int .i64 (X.need page (brd X.lv s)).2])∧Only (fun _=>False) W w'):=fun W ho=>need_nd W a page X s B cp ao (hG.nm (hS.more ho)) hF ha
  rw [hN] at HND
  simp only [] at HND
  have hE2:(E == 0)=false:=by simpa using hE
  clear hG hS hF ha hN
  obtain ⟨L,hL⟩:=exq ((X.lv:Int))
  obtain ⟨R,hR⟩:=exq ((X.rt:Int))
  obtain ⟨h,hh⟩:=exq (hiB X.hi)
  obtain ⟨n,hn⟩:=exq (X.items.length)
  rw [hL,hR,hh,hn] at HX HND ⊢
  clear hL hR hh hn
  obtain ⟨m,hm⟩:=exq (zs.length)
  rw [hm]
  clear hm
  go_enter Tryz.func6,Tryz.ntmps6
  go_upto_region 1 with fail
  obtain ⟨W0,hW0⟩:=exq ((w.alloc (.cells #[.int .i64 a,.int .i64 3,.int .i64 L,.int .i64 R,.string h,.slice ao n cp] 24)).alloc (.cells Br.none.cells 36))
  rw [hW0] at HX ⊢
  clear hW0
  obtain ⟨p0,p1,p2,p3,p4,p5,_⟩:=HX.out.1
  go_wp2_with fail
  refine (HND.out _ HX.out.2.2).mono ?_
  rintro x w1 ⟨rfl,ho⟩
  have HP1:=hide (HX.out.1.more ho)
  have HR1:=hide (HX.out.2.1.more ho)
  have HO1:=hide (o2 HX.out.2.2 ho)
  clear ho p0 p1 p2 p3 p4 p5 HX HND
  go_wp2_with (first | (refine wpList_build_bnone rfl rfl ?_; go_frame) | (refine wpList_put_br rfl (.tmp 8) (.tmp 23) rfl (w.heap.size+1) rfl Br.none.cl rfl Br.none rfl HR1.out ?_; intro W9 HW9; go_frame))
  refine bodyPost_ret (results_br rfl rfl HW9.out.at_) rfl ?_
  exact ⟨rfl,HO1.out.trans HW9.out.only (fun i hi e=>by omega)⟩
set_option maxHeartbeats 3200000 in
theorem enter_arg (w:World) (a page:Int) (X:Nd) (s:ByteArray) (B cp:Nat) (ao:Option Addr) (zs:List Int) (fb fc:Nat) (fa:Option Addr) (hG:Gd X) (hS:Strs w B ao X.items) (hF:Fit ao X.items.length cp) (ha:0≤a∧a < 9223372036854775808) (hz:Ns w fb fa zs) (hz1:zs.length≤fc) (hz2:fc≤maxLen) (N:Int) (hN:X.need page (brd X.lv s)=(N,0)) (hA:¬ (zs.length:Int)=N∨frs zs=false) :
    Calls Tryz.prog 6 #[.agg #[.int .i64 a,.int .i64 3,.int .i64 X.lv,.int .i64 X.rt,.string (hiB X.hi),.slice ao X.items.length cp],.int .i64 page,.string s,.slice fa zs.length fc] w fun x w'=>x=.returned (.tuple #[.agg Br.none.cells,.int .i64 1])∧Only (fun _=>False) w w':=by
  have HX:=hide (en_new w (.int .i64 a) (.int .i64 3) (.int .i64 X.lv) (.int .i64 X.rt) (.string (hiB X.hi)) (.slice ao X.items.length cp))
  have HND:Hid (∀ W,Only (fun _=>False) w W→Calls Tryz.prog 4 #[.agg #[.int .i64 a,.int .i64 3,.int .i64 X.lv,.int .i64 X.rt,.string (hiB X.hi),.slice ao X.items.length cp],.int .i64 page,.string s] W fun x w'=>x=.returned (.tuple #[.int .i64 (X.need page (brd X.lv s)).1,.int .i64 (X.need page (brd X.lv s)).2])∧Only (fun _=>False) W w'):=fun W ho=>need_nd W a page X s B cp ao (hG.nm (hS.more ho)) hF ha
  rw [hN] at HND
  simp only [] at HND
  have HFR:Hid (∀ W,Only (fun _=>False) w W→Calls Tryz.prog 17 #[.slice fa zs.length fc] W fun e w'=>e=.returned (.bool (frs zs))∧w'=W):=fun W ho=>areFresh_any W fb fc fa zs ⟨fun h0=>by obtain ⟨o,q,hc⟩:=hz.at_ h0; exact ⟨o,q,fun j hj=>(ho.cell (p:=⟨fb,o+j,none⟩) (World.block_lt_of_cell? w _ (hc j hj)) (fun h=>h)).trans (hc j hj)⟩,hz.len⟩ hz1 hz2
  have HL:Hid (¬ (zs.length:Int)=N∨frs zs=false):=hA
  clear hG hS hF ha hN hz hz1 hz2 hA
  obtain ⟨L,hL⟩:=exq ((X.lv:Int))
  obtain ⟨R,hR⟩:=exq ((X.rt:Int))
  obtain ⟨h,hh⟩:=exq (hiB X.hi)
  obtain ⟨n,hn⟩:=exq (X.items.length)
  rw [hL,hR,hh,hn] at HX HND ⊢
  clear hL hR hh hn
  obtain ⟨m,hm⟩:=exq (zs.length)
  obtain ⟨F,hFF⟩:=exq (frs zs)
  rw [hm,hFF] at HFR HL
  rw [hm]
  clear hm hFF
  go_enter Tryz.func6,Tryz.ntmps6
  go_upto_region 1 with fail
  obtain ⟨W0,hW0⟩:=exq ((w.alloc (.cells #[.int .i64 a,.int .i64 3,.int .i64 L,.int .i64 R,.string h,.slice ao n cp] 24)).alloc (.cells Br.none.cells 36))
  rw [hW0] at HX ⊢
  clear hW0
  obtain ⟨p0,p1,p2,p3,p4,p5,_⟩:=HX.out.1
  go_wp2_with fail
  refine (HND.out _ HX.out.2.2).mono ?_
  rintro x w1 ⟨rfl,ho⟩
  have HP1:=hide (HX.out.1.more ho)
  have HR1:=hide (HX.out.2.1.more ho)
  have HO1:=hide (o2 HX.out.2.2 ho)
  clear ho p0 p1 p2 p3 p4 p5 HX HND
  by_cases hq:(m:Int)=N
  · have hF2:F=false:=by rcases HL.out with q | q; exact absurd hq q; exact q
    subst hF2
    clear HL
    go_wp2_with fail
    refine (HFR.out _ HO1.out).mono ?_
    rintro x w2 ⟨rfl,h4⟩
    obtain rfl:=h4.symm
    go_wp2_with (refine wpList_build_bnone rfl rfl ?_; go_frame; refine wpList_put_br rfl (.tmp 8) (.tmp 34) rfl (w.heap.size+1) rfl Br.none.cl rfl Br.none rfl HR1.out ?_; intro W9 HW9; go_frame)
    refine bodyPost_ret (results_br rfl rfl HW9.out.at_) rfl ?_
    exact ⟨rfl,HO1.out.trans HW9.out.only (fun i hi e=>by omega)⟩
  · have hq2:((m:Int) == N)=false:=by simpa using hq
    clear HL HFR
    go_wp2_with (refine wpList_build_bnone rfl rfl ?_; go_frame; refine wpList_put_br rfl (.tmp 8) (.tmp 34) rfl (w.heap.size+1) rfl Br.none.cl rfl Br.none rfl HR1.out ?_; intro W9 HW9; go_frame)
    refine bodyPost_ret (results_br rfl rfl HW9.out.at_) rfl ?_
    exact ⟨rfl,HO1.out.trans HW9.out.only (fun i hi e=>by omega)⟩
set_option maxHeartbeats 3200000 in
theorem enter_in (w:World) (a page:Int) (X:Nd) (s:ByteArray) (B cp:Nat) (ao:Option Addr) (zs:List Int) (fb fc:Nat) (fa:Option Addr) (hG:Gd X) (hS:Strs w B ao X.items) (hF:Fit ao X.items.length cp) (ha:0≤a∧a < 9223372036854775808) (hz:Ns w fb fa zs) (hz1:zs.length≤fc) (hz2:fc≤maxLen) (hN:X.need page (brd X.lv s)=(0,0)) (hA:zs=[]) :
    Calls Tryz.prog 6 #[.agg #[.int .i64 a,.int .i64 3,.int .i64 X.lv,.int .i64 X.rt,.string (hiB X.hi),.slice ao X.items.length cp],.int .i64 page,.string s,.slice fa zs.length fc] w fun x w'=>x=.returned (.tuple #[.agg (Br.cells ⟨3,page,s,none,0,0⟩),.int .i64 0])∧Only (fun _=>False) w w':=by
  have HX:=hide (en_new w (.int .i64 a) (.int .i64 3) (.int .i64 X.lv) (.int .i64 X.rt) (.string (hiB X.hi)) (.slice ao X.items.length cp))
  have HND:Hid (∀ W,Only (fun _=>False) w W→Calls Tryz.prog 4 #[.agg #[.int .i64 a,.int .i64 3,.int .i64 X.lv,.int .i64 X.rt,.string (hiB X.hi),.slice ao X.items.length cp],.int .i64 page,.string s] W fun x w'=>x=.returned (.tuple #[.int .i64 (X.need page (brd X.lv s)).1,.int .i64 (X.need page (brd X.lv s)).2])∧Only (fun _=>False) W w'):=fun W ho=>need_nd W a page X s B cp ao (hG.nm (hS.more ho)) hF ha
  rw [hN] at HND
  simp only [] at HND
  have HFR:Hid (∀ W,Only (fun _=>False) w W→Calls Tryz.prog 17 #[.slice fa zs.length fc] W fun e w'=>e=.returned (.bool (frs zs))∧w'=W):=fun W ho=>areFresh_any W fb fc fa zs ⟨fun h0=>by obtain ⟨o,q,hc⟩:=hz.at_ h0; exact ⟨o,q,fun j hj=>(ho.cell (p:=⟨fb,o+j,none⟩) (World.block_lt_of_cell? w _ (hc j hj)) (fun h=>h)).trans (hc j hj)⟩,hz.len⟩ hz1 hz2
  subst hA
  have hfr:frs []=true:=by decide
  rw [hfr] at HFR
  clear hG hS hF ha hN hz hz1 hz2 hfr
  simp only [List.length_nil] at HFR ⊢
  obtain ⟨L,hL⟩:=exq ((X.lv:Int))
  obtain ⟨R,hR⟩:=exq ((X.rt:Int))
  obtain ⟨h,hh⟩:=exq (hiB X.hi)
  obtain ⟨n,hn⟩:=exq (X.items.length)
  rw [hL,hR,hh,hn] at HX HND ⊢
  clear hL hR hh hn
  go_enter Tryz.func6,Tryz.ntmps6
  go_upto_region 1 with fail
  obtain ⟨W0,hW0⟩:=exq ((w.alloc (.cells #[.int .i64 a,.int .i64 3,.int .i64 L,.int .i64 R,.string h,.slice ao n cp] 24)).alloc (.cells Br.none.cells 36))
  rw [hW0] at HX ⊢
  clear hW0
  obtain ⟨p0,p1,p2,p3,p4,p5,_⟩:=HX.out.1
  go_wp2_with fail
  refine (HND.out _ HX.out.2.2).mono ?_
  rintro x w1 ⟨rfl,ho⟩
  have HP1:=hide (HX.out.1.more ho)
  have HR1:=hide (HX.out.2.1.more ho)
  have HO1:=hide (o2 HX.out.2.2 ho)
  clear ho p0 p1 p2 p3 p4 p5 HX HND
  go_wp2_with fail
  refine (HFR.out _ HO1.out).mono ?_
  rintro x w2 ⟨rfl,h4⟩
  obtain rfl:=h4.symm
  go_wp2_with (refine wpList_build_in rfl (.tmp 37) (.tmp 38) rfl page s rfl rfl ?_; go_frame; refine wpList_put_br rfl (.tmp 8) (.tmp 39) rfl (w.heap.size+1) rfl Br.none.cl rfl ⟨3,page,s,none,0,0⟩ rfl HR1.out ?_; intro W9 HW9; go_frame)
  refine bodyPost_ret (results_br rfl rfl HW9.out.at_) rfl ?_
  exact ⟨rfl,HO1.out.trans HW9.out.only (fun i hi e=>by omega)⟩
set_option maxHeartbeats 3200000 in
theorem enter_one (w:World) (a page:Int) (X:Nd) (s:ByteArray) (B cp:Nat) (ao:Option Addr) (zs:List Int) (fb fc:Nat) (fa:Option Addr) (hG:Gd X) (hS:Strs w B ao X.items) (hF:Fit ao X.items.length cp) (ha:0≤a∧a < 9223372036854775808) (hz:Ns w fb fa zs) (hz1:zs.length≤fc) (hz2:fc≤maxLen) (j:Nat) (e:En) (k:Int) (hN:X.need page (brd X.lv s)=(1,0)) (hA:zs=[(j:Int)]) (hj:okC j=true) (hfr:frs [(j:Int)]=true) (hs:brd X.lv s=some (e,k)) (hb:¬ X.bad e) (hf:512 < (X.ins e k).size) :
    Calls Tryz.prog 6 #[.agg #[.int .i64 a,.int .i64 3,.int .i64 X.lv,.int .i64 X.rt,.string (hiB X.hi),.slice ao X.items.length cp],.int .i64 page,.string s,.slice fa zs.length fc] w fun x w'=>En1 w w' x page X j e k:=by
  have HX:=hide (en_new w (.int .i64 a) (.int .i64 3) (.int .i64 X.lv) (.int .i64 X.rt) (.string (hiB X.hi)) (.slice ao X.items.length cp))
  have HND:Hid (∀ W,Only (fun _=>False) w W→Calls Tryz.prog 4 #[.agg #[.int .i64 a,.int .i64 3,.int .i64 X.lv,.int .i64 X.rt,.string (hiB X.hi),.slice ao X.items.length cp],.int .i64 page,.string s] W fun x w'=>x=.returned (.tuple #[.int .i64 (X.need page (brd X.lv s)).1,.int .i64 (X.need page (brd X.lv s)).2])∧Only (fun _=>False) W w'):=fun W ho=>need_nd W a page X s B cp ao (hG.nm (hS.more ho)) hF ha
  rw [hN] at HND
  simp only [] at HND
  have HFR:Hid (∀ W,Only (fun _=>False) w W→Calls Tryz.prog 17 #[.slice fa zs.length fc] W fun e w'=>e=.returned (.bool (frs zs))∧w'=W):=fun W ho=>areFresh_any W fb fc fa zs ⟨fun h0=>by obtain ⟨o,q,hc⟩:=hz.at_ h0; exact ⟨o,q,fun j hj=>(ho.cell (p:=⟨fb,o+j,none⟩) (World.block_lt_of_cell? w _ (hc j hj)) (fun h=>h)).trans (hc j hj)⟩,hz.len⟩ hz1 hz2
  subst hA
  obtain ⟨fo,rfl,hfc⟩:=hz.at_ (by simp)
  have hf0:=hfc 0 (by simp)
  rw [Nat.add_zero] at hf0
  simp only [List.getElem_cons_zero] at hf0
  have HFL:=hide (World.block_lt_of_cell? w _ hf0)
  have hn2:2≤X.ks.length:=by
    obtain ⟨lo,ho⟩:=hG.ok
    have:=(ho.two hG.kok hb (fun v=>by unfold brd at hs; rw [if_neg (by omega)] at hs; exact (decS_some hs).2.1) hf).1
    omega
  have HSP:Hid (∀ W,Only (fun _=>False) w W→Calls Tryz.prog 18 #[.agg #[.int .i64 a,.int .i64 3,.int .i64 X.lv,.int .i64 X.rt,.string (hiB X.hi),.slice ao X.items.length cp],.int .i64 page,.slice (some ⟨fb,fo,none⟩) 1 fc] W fun x w'=>Im2 W w' x page X j):=fun W ho=>bsplit_one W a page X j B cp fb fo fc ao (hG.nm (hS.more ho)) hF hj hn2 ((ho.cell (p:=⟨fb,fo,none⟩) HFL.out (fun h=>h)).trans hf0)
  have HLY:Hid (∀ (W:World) (base b:Nat) (ao1 ao2:Option Addr) (cp1 cp2:Nat),W.ownsRow base 65 7 (.slice (some ⟨b,0,none⟩) 2 2) 2 (imc page ((X.left j).z 0 ao1 cp1)++imc j (X.right.z 0 ao2 cp2))→At W (fun q=>base≤q∧q≠b) ((X.left j).z 0 ao1 cp1)→At W (fun q=>base≤q∧q≠b) (X.right.z 0 ao2 cp2)→base≤W.heap.size→Calls Tryz.prog 19 #[.slice (some ⟨b,0,none⟩) 2 2,.string s] W fun x w'=>x=.returned (.int .i64 0)∧∃ ao1' cp1' ao2' cp2',w'.ownsRow base 65 7 (.slice (some ⟨b,0,none⟩) 2 2) 2 (imc page ((X.nl e k j).z 0 ao1' cp1')++imc j ((X.nr e k).z 0 ao2' cp2'))∧At w' (fun q=>base≤q) ((X.nl e k j).z 0 ao1' cp1')∧At w' (fun q=>base≤q) ((X.nr e k).z 0 ao2' cp2')∧Only (fun q=>q=b) W w'):=fun W base b ao1 ao2 cp1 cp2 r a1 a2 hb9=>by
    have hj':=okC_iff.1 hj
    have h:=lay_any W base b 2 2 page j X j ao1 ao2 cp1 cp2 [] s e k (by omega) (by rw [List.append_nil]; exact r) hG (by omega) a1 a2 hs hb hf hb9
    simp only [List.append_nil] at h
    exact h
  rw [hfr] at HFR
  clear hG hS hF ha hz hz1 hz2 hN hj hfr hs hb hf hn2 hfc hf0
  simp only [List.length_singleton] at HFR ⊢
  obtain ⟨L,hL⟩:=exq ((X.lv:Int))
  obtain ⟨R,hR⟩:=exq ((X.rt:Int))
  obtain ⟨h,hh⟩:=exq (hiB X.hi)
  obtain ⟨n,hn⟩:=exq (X.items.length)
  rw [hL,hR,hh,hn] at HX HND HSP ⊢
  clear hL hR hh hn
  go_enter Tryz.func6,Tryz.ntmps6
  go_upto_region 1 with fail
  obtain ⟨W0,hW0⟩:=exq ((w.alloc (.cells #[.int .i64 a,.int .i64 3,.int .i64 L,.int .i64 R,.string h,.slice ao n cp] 24)).alloc (.cells Br.none.cells 36))
  rw [hW0] at HX ⊢
  clear hW0
  obtain ⟨p0,p1,p2,p3,p4,p5,_⟩:=HX.out.1
  go_wp2_with fail
  refine (HND.out _ HX.out.2.2).mono ?_
  rintro x w1 ⟨rfl,ho⟩
  have HP1:=hide (HX.out.1.more ho)
  have HR1:=hide (HX.out.2.1.more ho)
  have HO1:=hide (o2 HX.out.2.2 ho)
  clear ho p0 p1 p2 p3 p4 p5 HX HND
  go_wp2_with fail
  refine (HFR.out _ HO1.out).mono ?_
  rintro x w2 ⟨rfl,h4⟩
  obtain rfl:=h4.symm
  obtain ⟨p0,p1,p2,p3,p4,p5,_⟩:=HP1.out
  go_wp2_with fail
  refine (HSP.out _ HO1.out).mono ?_
  rintro x w3 ⟨b,ao1,cp1,ao2,cp2,rfl,hr2,hA1,hA2,ho2⟩
  have HR3:=hide (HR1.out.more ho2)
  have HO3:=hide (o2 HO1.out ho2)
  have HNW:Hid (w.heap.size+1 < w1.heap.size):=HR1.out.lt
  have HNB:Hid (w.heap.size+1 < b):=by
    have h1:=(World.ownsRow.lt hr2 b rfl).1
    have h2:=HR1.out.lt
    unfold Hid
    omega
  have HLY2:=hide (HLY.out _ _ _ _ _ _ _ hr2 hA1 hA2 ho2.size)
  clear hr2 hA1 hA2 ho2 p0 p1 p2 p3 p4 p5 HSP HFR HLY HP1 HR1
  go_wp2_with fail
  refine HLY2.out.mono ?_
  rintro x w4 ⟨rfl,ao1',cp1',ao2',cp2',hr4,hA14,hA24,ho4⟩
  have HR4:=hide (HR3.out.kept ho4 (by have:=HNB.out; omega))
  have HO4:=hide (HO3.out.trans ho4 (fun i hi e=>by have:=HNB.out; omega))
  have HRW4:=hide (And.intro hr4 (And.intro hA14 hA24))
  clear hr4 hA14 hA24 ho4 HR3 HO3 HLY2
  go_wp2_with (refine wpList_build_split rfl (.tmp 58) rfl (some ⟨b,0,none⟩) 2 2 rfl ?_; go_frame; refine wpList_put_br rfl (.tmp 8) (.tmp 59) rfl (w.heap.size+1) rfl Br.none.cl rfl ⟨5,0,⟨#[]⟩,some ⟨b,0,none⟩,2,2⟩ rfl HR4.out ?_; intro W9 HW9; go_frame)
  refine bodyPost_ret (results_br rfl rfl HW9.out.at_) rfl ?_
  have hw1:w.heap.size≤w1.heap.size:=HO1.out.size
  have hr9:=own_mono (own_keptJ HRW4.out.1 HW9.out.only (fun q hq e=>by simp [Value.ownBlock] at hq; have:=HNB.out; omega)) hw1
  have ha9:=(HRW4.out.2.1.kept HW9.out.only (fun q hq e=>by have:=HNW.out; omega)).mono (Q:=fun q=>w.heap.size≤q) (fun q hq=>Nat.le_trans hw1 hq)
  have hb9:=(HRW4.out.2.2.kept HW9.out.only (fun q hq e=>by have:=HNW.out; omega)).mono (Q:=fun q=>w.heap.size≤q) (fun q hq=>Nat.le_trans hw1 hq)
  have ho9:=HO4.out.trans HW9.out.only (fun i hi e=>by omega)
  exact ⟨b,ao1',cp1',ao2',cp2',rfl,hr9,ha9,hb9,ho9⟩
set_option maxHeartbeats 3200000 in
theorem enter_two (w:World) (a page:Int) (X:Nd) (s:ByteArray) (B cp:Nat) (ao:Option Addr) (zs:List Int) (fb fc:Nat) (fa:Option Addr) (hG:Gd X) (hS:Strs w B ao X.items) (hF:Fit ao X.items.length cp) (ha:0≤a∧a < 9223372036854775808) (hz:Ns w fb fa zs) (hz1:zs.length≤fc) (hz2:fc≤maxLen) (i j:Nat) (e:En) (k:Int) (hN:X.need page (brd X.lv s)=(2,0)) (hA:zs=[(i:Int),(j:Int)]) (hi:okC i=true) (hj:okC j=true) (hfr:frs [(i:Int),(j:Int)]=true) (hv:X.lv+1≤255) (hs:brd X.lv s=some (e,k)) (hb:¬ X.bad e) (hf:512 < (X.ins e k).size) :
    Calls Tryz.prog 6 #[.agg #[.int .i64 a,.int .i64 3,.int .i64 X.lv,.int .i64 X.rt,.string (hiB X.hi),.slice ao X.items.length cp],.int .i64 page,.string s,.slice fa zs.length fc] w fun x w'=>En2 w w' x X i j e k:=by
  have HX:=hide (en_new w (.int .i64 a) (.int .i64 3) (.int .i64 X.lv) (.int .i64 X.rt) (.string (hiB X.hi)) (.slice ao X.items.length cp))
  have HND:Hid (∀ W,Only (fun _=>False) w W→Calls Tryz.prog 4 #[.agg #[.int .i64 a,.int .i64 3,.int .i64 X.lv,.int .i64 X.rt,.string (hiB X.hi),.slice ao X.items.length cp],.int .i64 page,.string s] W fun x w'=>x=.returned (.tuple #[.int .i64 (X.need page (brd X.lv s)).1,.int .i64 (X.need page (brd X.lv s)).2])∧Only (fun _=>False) W w'):=fun W ho=>need_nd W a page X s B cp ao (hG.nm (hS.more ho)) hF ha
  rw [hN] at HND
  simp only [] at HND
  have HFR:Hid (∀ W,Only (fun _=>False) w W→Calls Tryz.prog 17 #[.slice fa zs.length fc] W fun e w'=>e=.returned (.bool (frs zs))∧w'=W):=fun W ho=>areFresh_any W fb fc fa zs ⟨fun h0=>by obtain ⟨o,q,hc⟩:=hz.at_ h0; exact ⟨o,q,fun j hj=>(ho.cell (p:=⟨fb,o+j,none⟩) (World.block_lt_of_cell? w _ (hc j hj)) (fun h=>h)).trans (hc j hj)⟩,hz.len⟩ hz1 hz2
  subst hA
  obtain ⟨fo,rfl,hfc⟩:=hz.at_ (by simp)
  have hf0:=hfc 0 (by simp)
  have hf1:=hfc 1 (by simp)
  rw [Nat.add_zero] at hf0
  simp only [List.getElem_cons_zero] at hf0
  simp only [List.getElem_cons_succ,List.getElem_cons_zero] at hf1
  have HFL:=hide (World.block_lt_of_cell? w _ hf0)
  have hn2:2≤X.ks.length:=by
    obtain ⟨lo,ho⟩:=hG.ok
    have:=(ho.two hG.kok hb (fun v=>by unfold brd at hs; rw [if_neg (by omega)] at hs; exact (decS_some hs).2.1) hf).1
    omega
  have HSP:Hid (∀ W,Only (fun _=>False) w W→Calls Tryz.prog 18 #[.agg #[.int .i64 a,.int .i64 3,.int .i64 X.lv,.int .i64 X.rt,.string (hiB X.hi),.slice ao X.items.length cp],.int .i64 page,.slice (some ⟨fb,fo,none⟩) 2 fc] W fun x w'=>Im3 W w' x X i j):=fun W ho=>bsplit_two W a page X i j B cp fb fo fc ao (hG.nm (hS.more ho)) hF hi hj hn2 hv ((ho.cell (p:=⟨fb,fo,none⟩) HFL.out (fun h=>h)).trans hf0) ((ho.cell (p:=⟨fb,fo+1,none⟩) HFL.out (fun h=>h)).trans hf1)
  have HLY:Hid (∀ (W:World) (base b c:Nat) (ao1 ao2 ao3:Option Addr) (cp1 cp2 cp3:Nat),W.ownsRow base 65 7 (.slice (some ⟨b,0,none⟩) 3 c) 3 (imc i ((X.left j).z 0 ao1 cp1)++imc j (X.right.z 0 ao2 cp2)++imc 1 ((X.over i j).z 0 ao3 cp3))→At W (fun q=>base≤q∧q≠b) ((X.left j).z 0 ao1 cp1)→At W (fun q=>base≤q∧q≠b) (X.right.z 0 ao2 cp2)→base≤W.heap.size→Calls Tryz.prog 19 #[.slice (some ⟨b,0,none⟩) 3 c,.string s] W fun x w'=>x=.returned (.int .i64 0)∧∃ ao1' cp1' ao2' cp2',w'.ownsRow base 65 7 (.slice (some ⟨b,0,none⟩) 3 c) 3 (imc i ((X.nl e k j).z 0 ao1' cp1')++imc j ((X.nr e k).z 0 ao2' cp2')++imc 1 ((X.over i j).z 0 ao3 cp3))∧At w' (fun q=>base≤q) ((X.nl e k j).z 0 ao1' cp1')∧At w' (fun q=>base≤q) ((X.nr e k).z 0 ao2' cp2')∧Only (fun q=>q=b) W w'):=fun W base b c ao1 ao2 ao3 cp1 cp2 cp3 r a1 a2 hb9=>by
    have hj':=okC_iff.1 hj
    exact lay_any W base b 3 c i j X j ao1 ao2 cp1 cp2 _ s e k (by omega) r hG (by omega) a1 a2 hs hb hf hb9
  rw [hfr] at HFR
  clear hG hS hF ha hz hz1 hz2 hN hi hj hfr hs hb hf hn2 hv hfc hf0 hf1
  simp only [List.length_cons,List.length_nil,Nat.zero_add,Nat.reduceAdd] at HFR ⊢
  obtain ⟨L,hL⟩:=exq ((X.lv:Int))
  obtain ⟨R,hR⟩:=exq ((X.rt:Int))
  obtain ⟨h,hh⟩:=exq (hiB X.hi)
  obtain ⟨n,hn⟩:=exq (X.items.length)
  rw [hL,hR,hh,hn] at HX HND HSP ⊢
  clear hL hR hh hn
  go_enter Tryz.func6,Tryz.ntmps6
  go_upto_region 1 with fail
  obtain ⟨W0,hW0⟩:=exq ((w.alloc (.cells #[.int .i64 a,.int .i64 3,.int .i64 L,.int .i64 R,.string h,.slice ao n cp] 24)).alloc (.cells Br.none.cells 36))
  rw [hW0] at HX ⊢
  clear hW0
  obtain ⟨p0,p1,p2,p3,p4,p5,_⟩:=HX.out.1
  go_wp2_with fail
  refine (HND.out _ HX.out.2.2).mono ?_
  rintro x w1 ⟨rfl,ho⟩
  have HP1:=hide (HX.out.1.more ho)
  have HR1:=hide (HX.out.2.1.more ho)
  have HO1:=hide (o2 HX.out.2.2 ho)
  clear ho p0 p1 p2 p3 p4 p5 HX HND
  go_wp2_with fail
  refine (HFR.out _ HO1.out).mono ?_
  rintro x w2 ⟨rfl,h4⟩
  obtain rfl:=h4.symm
  obtain ⟨p0,p1,p2,p3,p4,p5,_⟩:=HP1.out
  go_wp2_with fail
  refine (HSP.out _ HO1.out).mono ?_
  rintro x w3 ⟨b,c,ao1,cp1,ao2,cp2,ao3,cp3,rfl,hr2,hA1,hA2,hA3,ho2⟩
  have HR3:=hide (HR1.out.more ho2)
  have HO3:=hide (o2 HO1.out ho2)
  have HNW:Hid (w.heap.size+1 < w1.heap.size):=HR1.out.lt
  have HNB:Hid (w.heap.size+1 < b):=by
    have h1:=(World.ownsRow.lt hr2 b rfl).1
    have h2:=HR1.out.lt
    unfold Hid
    omega
  have HLY2:=hide (HLY.out _ _ _ _ _ _ _ _ _ _ hr2 hA1 hA2 ho2.size)
  have HA3:=hide hA3
  clear hr2 hA1 hA2 ho2 hA3 p0 p1 p2 p3 p4 p5 HSP HFR HLY HP1 HR1
  go_wp2_with fail
  refine HLY2.out.mono ?_
  rintro x w4 ⟨rfl,ao1',cp1',ao2',cp2',hr4,hA14,hA24,ho4⟩
  have HR4:=hide (HR3.out.kept ho4 (by have:=HNB.out; omega))
  have HO4:=hide (HO3.out.trans ho4 (fun i hi e=>by have:=HNB.out; omega))
  have HRW4:=hide (And.intro hr4 (And.intro hA14 hA24))
  have HA34:=hide (HA3.out.kept ho4 (fun q hq=>hq.2))
  clear hr4 hA14 hA24 ho4 HR3 HO3 HLY2
  go_wp2_with (refine wpList_build_split rfl (.tmp 58) rfl (some ⟨b,0,none⟩) 3 c rfl ?_; go_frame; refine wpList_put_br rfl (.tmp 8) (.tmp 59) rfl (w.heap.size+1) rfl Br.none.cl rfl ⟨5,0,⟨#[]⟩,some ⟨b,0,none⟩,3,c⟩ rfl HR4.out ?_; intro W9 HW9; go_frame)
  refine bodyPost_ret (results_br rfl rfl HW9.out.at_) rfl ?_
  have hw1:w.heap.size≤w1.heap.size:=HO1.out.size
  have hr9:=own_mono (own_keptJ HRW4.out.1 HW9.out.only (fun q hq e=>by simp [Value.ownBlock] at hq; have:=HNB.out; omega)) hw1
  have ha9:=(HRW4.out.2.1.kept HW9.out.only (fun q hq e=>by have:=HNW.out; omega)).mono (Q:=fun q=>w.heap.size≤q) (fun q hq=>Nat.le_trans hw1 hq)
  have hb9:=(HRW4.out.2.2.kept HW9.out.only (fun q hq e=>by have:=HNW.out; omega)).mono (Q:=fun q=>w.heap.size≤q) (fun q hq=>Nat.le_trans hw1 hq)
  have ho9:=HO4.out.trans HW9.out.only (fun i hi e=>by omega)
  have hc9:=(HA34.out.kept HW9.out.only (fun q hq e=>by have:=HNW.out; have:=hq.1; omega)).mono (Q:=fun q=>w.heap.size≤q) (fun q hq=>Nat.le_trans hw1 hq.1)
  exact ⟨b,c,ao1',cp1',ao2',cp2',ao3,cp3,rfl,hr9,ha9,hb9,hc9,ho9⟩
end Go.Proofs.YtipkeeobmihogaaGreat
