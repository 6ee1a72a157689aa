/- Parts. -/
import Derived.Test.YtipkeeobmihogaaGreatK50
set_option maxRecDepth 100000
namespace Go.Proofs.YtipkeeobmihogaaGreat
open Go.RowKit
set_option maxHeartbeats 6400000 in
theorem rbenter_sp1 (w:World) (a page:Int) (X:Nd) (s:ByteArray) (B cp:Nat) (ao:Option Addr) (hG:Gd X) (hS:Strs w B ao X.items) (ha:0≤a∧a < 9223372036854775808) (hF:Fit ao X.items.length cp) (hs:s.size≤140737488355328) (J:Int) (fb fc fo:Nat) (hZ:Ns w fb (some ⟨fb,fo,none⟩) [J]) (hN:X.need page (brd X.lv s)=(1,0)) (hc:RtP [J] 1) (hJ:okC J=false) (hn2:2≤X.ks.length) :
    Calls Tryz.prog 7 #[.agg #[.int .i64 a,.int .i64 3,.int .i64 X.lv,.int .i64 X.rt,.string (hiB X.hi),.slice ao X.items.length cp],.int .i64 page,.string s,.slice (some ⟨fb,fo,none⟩) 1 fc] w fun x w'=>x=.returned (.tuple #[.agg Br.none.cells,.int .i64 140])∧Only (fun _=>False) w w':=by
  have HX:=hide (en_new w (.int .i64 a) (.int .i64 3) (.int .i64 X.lv) (.int .i64 X.rt) (.string (hiB X.hi)) (.slice ao X.items.length cp))
  have HND:Hid (∀ W,Only (fun _=>False) w W→Calls Tryz.prog 5 #[.agg #[.int .i64 a,.int .i64 3,.int .i64 X.lv,.int .i64 X.rt,.string (hiB X.hi),.slice ao X.items.length cp],.int .i64 page,.string s] W fun x w'=>x=.returned (.tuple #[.int .i64 1,.int .i64 0])∧Only (fun _=>False) W w'):=fun W ho=>by
    have q:=rbneed_nd W a page X s B cp ao (hG.nm (hS.more ho)) ha hF hs
    rw [hN] at q
    exact q
  obtain ⟨fo',hfo',hfc⟩:=hZ.at_ (by simp)
  cases hfo'
  have HFC:Hid (w.cell? ⟨fb,fo+0,none⟩=some (.int .i64 J)):=hfc 0 (by simp)
  have HFB:Hid (fb < w.heap.size):=World.block_lt_of_cell? w _ HFC.out
  have HRT:Hid (∀ W,Only (fun _=>False) w W→Calls Tryz.prog 20 #[.slice (some ⟨fb,fo,none⟩) 1 fc,.int .i64 1] W fun x w'=>x=.returned (.bool true)∧Only (fun _=>False) W w'):=fun W ho=>by
    refine (rbright_any W fb fc (some ⟨fb,fo,none⟩) [J] 1 ⟨fun h0=>⟨fo,rfl,fun j hj=>(ho.cell (p:=⟨fb,fo+j,none⟩) HFB.out (fun h=>h)).trans (hfc j hj)⟩,hZ.len⟩ (fun h0=>Nat.lt_of_lt_of_le HFB.out ho.size)).mono ?_
    rintro x w' ⟨⟨b,rfl,hb⟩,o⟩
    rw [hb.2 hc]
    exact ⟨rfl,o⟩
  have HSP:Hid (∀ W,Only (fun _=>False) w W→Calls Tryz.prog 21 #[.agg #[.int .i64 0,.int .i64 3,.int .i64 X.lv,.int .i64 X.rt,.string (hiB X.hi),.slice ao X.items.length cp],.int .i64 J] W fun x w'=>x=.returned (.tuple #[.agg #[.int .i64 0,.int .i64 0,.int .i64 0,.int .i64 0,.string ⟨#[]⟩,.slice none 0 0],.agg #[.int .i64 0,.int .i64 0,.int .i64 0,.int .i64 0,.string ⟨#[]⟩,.slice none 0 0],.agg #[.string ⟨#[]⟩,.int .i64 0,.int .i64 0],.int .i64 140])∧Only (fun _=>False) W w'):=fun W ho=>fsplit_no W 0 X J B cp ao (hG.nm (hS.more ho)) ⟨by omega,by omega⟩ hJ hn2
  clear hG hS ha hF hs hZ hN hc hJ hn2 hfc
  obtain ⟨L,hL⟩:=exq ((X.lv:Int))
  obtain ⟨R,hR⟩:=exq ((X.rt:Int))
  obtain ⟨h,hh⟩:=exq (hiB X.hi)
  obtain ⟨n,hn⟩:=exq (X.items.length)
  rw [hL,hR,hh,hn] at HX HND HSP ⊢
  clear hL hR hh hn
  go_enter Tryz.func7,Tryz.ntmps7
  go_upto_region 1 with fail
  obtain ⟨W0,hW0⟩:=exq ((w.alloc (.cells #[.int .i64 a,.int .i64 3,.int .i64 L,.int .i64 R,.string h,.slice ao n cp] 24)).alloc (.cells Br.none.cells 36))
  rw [hW0] at HX ⊢
  clear hW0
  obtain ⟨p0,p1,p2,p3,p4,p5,_⟩:=HX.out.1
  go_wp2_with fail
  refine (HND.out _ HX.out.2.2).mono ?_
  rintro x w1 ⟨rfl,ho⟩
  have HP1:=hide (HX.out.1.more ho)
  have HR1:=hide (HX.out.2.1.more ho)
  have HO1:=hide (o2 HX.out.2.2 ho)
  clear ho p0 p1 p2 p3 p4 p5 HX HND
  go_wp2_with fail
  refine (HRT.out _ HO1.out).mono ?_
  rintro x w2 ⟨rfl,ho⟩
  have HP2:=hide (HP1.out.more ho)
  have HR2:=hide (HR1.out.more ho)
  have HO2:=hide (o2 HO1.out ho)
  clear ho HR1 HO1 HP1 HRT
  obtain ⟨p0,p1,p2,p3,p4,p5,g0,_⟩:=HP2.out
  go_upto_region 9 with fail
  have HOS:Hid (Only (fun k=>k=w.heap.size) w2 (w2.setCell ⟨w.heap.size,0,none⟩ (.int .i64 0))):=Only.setCell w2 ⟨w.heap.size,0,none⟩ _ rfl
  have HP3:=hide (HP2.out.s0 (.int .i64 0))
  have HR3:=hide (HR2.out.kept HOS.out (by omega))
  have HO3:=hide (HO2.out.trans HOS.out (fun i hi e=>by omega))
  obtain ⟨w3,hw3⟩:=exq (w2.setCell ⟨w.heap.size,0,none⟩ (.int .i64 0))
  rw [hw3] at HP3 HR3 HO3 ⊢
  clear hw3 p0 p1 p2 p3 p4 p5 g0 HP2 HR2 HO2 HOS
  have hf1:=(HO3.out.cell (p:=⟨fb,fo+0,none⟩) HFB.out (fun h=>h)).trans HFC.out
  rw [Nat.add_zero] at hf1
  obtain ⟨p0,p1,p2,p3,p4,p5,_⟩:=HP3.out
  go_wp2_with fail
  refine (HSP.out _ HO3.out).mono ?_
  rintro x w4 ⟨rfl,ho⟩
  have HOA:=hide (o2 (o2 (onlyA w4 (.cells #[.int .i64 0,.int .i64 0,.int .i64 0,.int .i64 0,.string ⟨#[]⟩,.slice none 0 0] 24)) (onlyA _ (.cells #[.int .i64 0,.int .i64 0,.int .i64 0,.int .i64 0,.string ⟨#[]⟩,.slice none 0 0] 24))) (onlyA _ (.cells #[.string ⟨#[]⟩,.int .i64 0,.int .i64 0] 41)))
  have HR4:=hide ((HR3.out.more ho).more HOA.out)
  have HO4:=hide (o2 (o2 HO3.out ho) HOA.out)
  clear ho p0 p1 p2 p3 p4 p5 hf1 HP3 HR3 HO3
  go_upto_region 11 with fail
  obtain ⟨w5,hw5⟩:=exq (((w4.alloc (.cells #[.int .i64 0,.int .i64 0,.int .i64 0,.int .i64 0,.string ⟨#[]⟩,.slice none 0 0] 24)).alloc (.cells #[.int .i64 0,.int .i64 0,.int .i64 0,.int .i64 0,.string ⟨#[]⟩,.slice none 0 0] 24)).alloc (.cells #[.string ⟨#[]⟩,.int .i64 0,.int .i64 0] 41))
  rw [hw5] at HR4 HO4 ⊢
  clear hw5 HOA
  go_wp2_with (first | (refine wpList_build_bnone rfl rfl ?_; go_frame) | (refine wpList_put_br rfl (.tmp 8) (.tmp 62) rfl (w.heap.size+1) rfl Br.none.cl rfl Br.none rfl HR4.out ?_; intro W9 HW9; go_frame))
  refine bodyPost_ret (results_br rfl rfl HW9.out.at_) rfl ?_
  exact ⟨rfl,HO4.out.trans HW9.out.only (fun i hi e=>by omega)⟩
set_option maxHeartbeats 6400000 in
theorem rbenter_sp2 (w:World) (a page:Int) (X:Nd) (s:ByteArray) (B cp:Nat) (ao:Option Addr) (hG:Gd X) (hS:Strs w B ao X.items) (ha:0≤a∧a < 9223372036854775808) (hF:Fit ao X.items.length cp) (hs:s.size≤140737488355328) (I J:Int) (fb fc fo:Nat) (hZ:Ns w fb (some ⟨fb,fo,none⟩) [I,J]) (hN:X.need page (brd X.lv s)=(2,0)) (hc:RtP [I,J] 2) (hJ:okC J=false) (hn2:2≤X.ks.length) :
    Calls Tryz.prog 7 #[.agg #[.int .i64 a,.int .i64 3,.int .i64 X.lv,.int .i64 X.rt,.string (hiB X.hi),.slice ao X.items.length cp],.int .i64 page,.string s,.slice (some ⟨fb,fo,none⟩) 2 fc] w fun x w'=>x=.returned (.tuple #[.agg Br.none.cells,.int .i64 140])∧Only (fun _=>False) w w':=by
  have HX:=hide (en_new w (.int .i64 a) (.int .i64 3) (.int .i64 X.lv) (.int .i64 X.rt) (.string (hiB X.hi)) (.slice ao X.items.length cp))
  have HND:Hid (∀ W,Only (fun _=>False) w W→Calls Tryz.prog 5 #[.agg #[.int .i64 a,.int .i64 3,.int .i64 X.lv,.int .i64 X.rt,.string (hiB X.hi),.slice ao X.items.length cp],.int .i64 page,.string s] W fun x w'=>x=.returned (.tuple #[.int .i64 2,.int .i64 0])∧Only (fun _=>False) W w'):=fun W ho=>by
    have q:=rbneed_nd W a page X s B cp ao (hG.nm (hS.more ho)) ha hF hs
    rw [hN] at q
    exact q
  obtain ⟨fo',hfo',hfc⟩:=hZ.at_ (by simp)
  cases hfo'
  have HFC:Hid (w.cell? ⟨fb,fo+1,none⟩=some (.int .i64 J)):=hfc 1 (by simp)
  have HFB:Hid (fb < w.heap.size):=World.block_lt_of_cell? w _ HFC.out
  have HRT:Hid (∀ W,Only (fun _=>False) w W→Calls Tryz.prog 20 #[.slice (some ⟨fb,fo,none⟩) 2 fc,.int .i64 2] W fun x w'=>x=.returned (.bool true)∧Only (fun _=>False) W w'):=fun W ho=>by
    refine (rbright_any W fb fc (some ⟨fb,fo,none⟩) [I,J] 2 ⟨fun h0=>⟨fo,rfl,fun j hj=>(ho.cell (p:=⟨fb,fo+j,none⟩) HFB.out (fun h=>h)).trans (hfc j hj)⟩,hZ.len⟩ (fun h0=>Nat.lt_of_lt_of_le HFB.out ho.size)).mono ?_
    rintro x w' ⟨⟨b,rfl,hb⟩,o⟩
    rw [hb.2 hc]
    exact ⟨rfl,o⟩
  have HSP:Hid (∀ W,Only (fun _=>False) w W→Calls Tryz.prog 21 #[.agg #[.int .i64 0,.int .i64 3,.int .i64 X.lv,.int .i64 X.rt,.string (hiB X.hi),.slice ao X.items.length cp],.int .i64 J] W fun x w'=>x=.returned (.tuple #[.agg #[.int .i64 0,.int .i64 0,.int .i64 0,.int .i64 0,.string ⟨#[]⟩,.slice none 0 0],.agg #[.int .i64 0,.int .i64 0,.int .i64 0,.int .i64 0,.string ⟨#[]⟩,.slice none 0 0],.agg #[.string ⟨#[]⟩,.int .i64 0,.int .i64 0],.int .i64 140])∧Only (fun _=>False) W w'):=fun W ho=>fsplit_no W 0 X J B cp ao (hG.nm (hS.more ho)) ⟨by omega,by omega⟩ hJ hn2
  clear hG hS ha hF hs hZ hN hc hJ hn2 hfc
  obtain ⟨L,hL⟩:=exq ((X.lv:Int))
  obtain ⟨R,hR⟩:=exq ((X.rt:Int))
  obtain ⟨h,hh⟩:=exq (hiB X.hi)
  obtain ⟨n,hn⟩:=exq (X.items.length)
  rw [hL,hR,hh,hn] at HX HND HSP ⊢
  clear hL hR hh hn
  go_enter Tryz.func7,Tryz.ntmps7
  go_upto_region 1 with fail
  obtain ⟨W0,hW0⟩:=exq ((w.alloc (.cells #[.int .i64 a,.int .i64 3,.int .i64 L,.int .i64 R,.string h,.slice ao n cp] 24)).alloc (.cells Br.none.cells 36))
  rw [hW0] at HX ⊢
  clear hW0
  obtain ⟨p0,p1,p2,p3,p4,p5,_⟩:=HX.out.1
  go_wp2_with fail
  refine (HND.out _ HX.out.2.2).mono ?_
  rintro x w1 ⟨rfl,ho⟩
  have HP1:=hide (HX.out.1.more ho)
  have HR1:=hide (HX.out.2.1.more ho)
  have HO1:=hide (o2 HX.out.2.2 ho)
  clear ho p0 p1 p2 p3 p4 p5 HX HND
  go_wp2_with fail
  refine (HRT.out _ HO1.out).mono ?_
  rintro x w2 ⟨rfl,ho⟩
  have HP2:=hide (HP1.out.more ho)
  have HR2:=hide (HR1.out.more ho)
  have HO2:=hide (o2 HO1.out ho)
  clear ho HR1 HO1 HP1 HRT
  obtain ⟨p0,p1,p2,p3,p4,p5,g0,_⟩:=HP2.out
  go_upto_region 9 with fail
  have HOS:Hid (Only (fun k=>k=w.heap.size) w2 (w2.setCell ⟨w.heap.size,0,none⟩ (.int .i64 0))):=Only.setCell w2 ⟨w.heap.size,0,none⟩ _ rfl
  have HP3:=hide (HP2.out.s0 (.int .i64 0))
  have HR3:=hide (HR2.out.kept HOS.out (by omega))
  have HO3:=hide (HO2.out.trans HOS.out (fun i hi e=>by omega))
  obtain ⟨w3,hw3⟩:=exq (w2.setCell ⟨w.heap.size,0,none⟩ (.int .i64 0))
  rw [hw3] at HP3 HR3 HO3 ⊢
  clear hw3 p0 p1 p2 p3 p4 p5 g0 HP2 HR2 HO2 HOS
  have hf1:=(HO3.out.cell (p:=⟨fb,fo+1,none⟩) HFB.out (fun h=>h)).trans HFC.out
  obtain ⟨p0,p1,p2,p3,p4,p5,_⟩:=HP3.out
  go_wp2_with fail
  refine (HSP.out _ HO3.out).mono ?_
  rintro x w4 ⟨rfl,ho⟩
  have HOA:=hide (o2 (o2 (onlyA w4 (.cells #[.int .i64 0,.int .i64 0,.int .i64 0,.int .i64 0,.string ⟨#[]⟩,.slice none 0 0] 24)) (onlyA _ (.cells #[.int .i64 0,.int .i64 0,.int .i64 0,.int .i64 0,.string ⟨#[]⟩,.slice none 0 0] 24))) (onlyA _ (.cells #[.string ⟨#[]⟩,.int .i64 0,.int .i64 0] 41)))
  have HR4:=hide ((HR3.out.more ho).more HOA.out)
  have HO4:=hide (o2 (o2 HO3.out ho) HOA.out)
  clear ho p0 p1 p2 p3 p4 p5 hf1 HP3 HR3 HO3
  go_upto_region 11 with fail
  obtain ⟨w5,hw5⟩:=exq (((w4.alloc (.cells #[.int .i64 0,.int .i64 0,.int .i64 0,.int .i64 0,.string ⟨#[]⟩,.slice none 0 0] 24)).alloc (.cells #[.int .i64 0,.int .i64 0,.int .i64 0,.int .i64 0,.string ⟨#[]⟩,.slice none 0 0] 24)).alloc (.cells #[.string ⟨#[]⟩,.int .i64 0,.int .i64 0] 41))
  rw [hw5] at HR4 HO4 ⊢
  clear hw5 HOA
  go_wp2_with (first | (refine wpList_build_bnone rfl rfl ?_; go_frame) | (refine wpList_put_br rfl (.tmp 8) (.tmp 62) rfl (w.heap.size+1) rfl Br.none.cl rfl Br.none rfl HR4.out ?_; intro W9 HW9; go_frame))
  refine bodyPost_ret (results_br rfl rfl HW9.out.at_) rfl ?_
  exact ⟨rfl,HO4.out.trans HW9.out.only (fun i hi e=>by omega)⟩
end Go.Proofs.YtipkeeobmihogaaGreat
