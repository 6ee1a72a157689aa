/- Parts. -/
import Derived.Test.YtipkeeobmihogaaGreatK50
set_option maxRecDepth 100000
namespace Go.Proofs.YtipkeeobmihogaaGreat
open Go.RowKit
set_option maxHeartbeats 6400000 in
theorem rbenter_root_false (w:World) (a page:Int) (X:Nd) (s:ByteArray) (B cp:Nat) (ao:Option Addr) (hG:Gd X) (hS:Strs w B ao X.items) (ha:0≤a∧a < 9223372036854775808) (hF:Fit ao X.items.length cp) (hs:s.size≤140737488355328) (I J:Int) (fb fc fo:Nat) (hZ:Ns w fb (some ⟨fb,fo,none⟩) [I,J]) (hN:X.need page (brd X.lv s)=(2,0)) (hc:RtP [I,J] 2) (e:En) (k:Int) (hsb:brd X.lv s=some (e,k)) (hb:¬ X.bad e) (hf:512 < (X.ins e k).size) (hJ:okC J=true) (hy:byd X.bord e=false) (hv:255 < (X.lv:Int)+1∨((X.lv:Int)+1≤255∧okC I=false)) :
    Calls Tryz.prog 7 #[.agg #[.int .i64 a,.int .i64 3,.int .i64 X.lv,.int .i64 X.rt,.string (hiB X.hi),.slice ao X.items.length cp],.int .i64 page,.string s,.slice (some ⟨fb,fo,none⟩) 2 fc] w fun x w'=>x=.returned (.tuple #[.agg Br.none.cells,.int .i64 140])∧Only (fun _=>False) w w':=by
  have HX:=hide (en_new w (.int .i64 a) (.int .i64 3) (.int .i64 X.lv) (.int .i64 X.rt) (.string (hiB X.hi)) (.slice ao X.items.length cp))
  have HND:Hid (∀ W,Only (fun _=>False) w W→Calls Tryz.prog 5 #[.agg #[.int .i64 a,.int .i64 3,.int .i64 X.lv,.int .i64 X.rt,.string (hiB X.hi),.slice ao X.items.length cp],.int .i64 page,.string s] W fun x w'=>x=.returned (.tuple #[.int .i64 2,.int .i64 0])∧Only (fun _=>False) W w'):=fun W ho=>by
    have q:=rbneed_nd W a page X s B cp ao (hG.nm (hS.more ho)) ha hF hs
    rw [hN] at q
    exact q
  obtain ⟨fo',hfo',hfc⟩:=hZ.at_ (by simp)
  cases hfo'
  have HFC:Hid (w.cell? ⟨fb,fo+1,none⟩=some (.int .i64 J)):=hfc 1 (by simp)
  have HFB:Hid (fb < w.heap.size):=World.block_lt_of_cell? w _ HFC.out
  have HRT:Hid (∀ W,Only (fun _=>False) w W→Calls Tryz.prog 20 #[.slice (some ⟨fb,fo,none⟩) 2 fc,.int .i64 2] W fun x w'=>x=.returned (.bool true)∧Only (fun _=>False) W w'):=fun W ho=>by
    refine (rbright_any W fb fc (some ⟨fb,fo,none⟩) [I,J] 2 ⟨fun h0=>⟨fo,rfl,fun j hj=>(ho.cell (p:=⟨fb,fo+j,none⟩) HFB.out (fun h=>h)).trans (hfc j hj)⟩,hZ.len⟩ (fun h0=>Nat.lt_of_lt_of_le HFB.out ho.size)).mono ?_
    rintro x w' ⟨⟨b,rfl,hb⟩,o⟩
    rw [hb.2 hc]
    exact ⟨rfl,o⟩
  have HFI:Hid (w.cell? ⟨fb,fo,none⟩=some (.int .i64 I)):=by have q:=hfc 0 (by simp); rwa [Nat.add_zero] at q
  have hlo:=hG.ok
  obtain ⟨lo,hok⟩:=hlo
  have hc9:0 < X.lv→okC k=true:=fun v=>by
    unfold brd at hsb
    rw [if_neg (by omega)] at hsb
    exact (decS_some hsb).2.1
  have hn2:2≤X.ks.length:=by have:=(hok.two hG.kok hb hc9 hf).1; omega
  have he:=(Nd.good hb).1
  have hjj:=okC_iff.1 hJ
  obtain ⟨j,hj⟩:∃ j:Nat,(j:Int)=J:=⟨J.toNat,by omega⟩
  have hj2:j≤65535:=by omega
  subst hj
  have HSP:Hid (∀ W,Only (fun _=>False) w W→Calls Tryz.prog 21 #[.agg #[.int .i64 0,.int .i64 3,.int .i64 X.lv,.int .i64 X.rt,.string (hiB X.hi),.slice ao X.items.length cp],.int .i64 (j:Int)] W fun x w'=>SpR W w' x 0 X j):=fun W ho=>fsplit_nd W 0 X j B cp ao (hG.nm (hS.more ho)) hF hJ hn2 ⟨by omega,by omega⟩
  have HLG:Hid (∀ W,Only (fun _=>False) w W→Calls Tryz.prog 16 #[.agg #[.int .i64 0,.int .i64 3,.int .i64 X.lv,.int .i64 X.rt,.string (hiB X.hi),.slice ao X.items.length cp],.string s] W fun x w'=>∃ ao' cp',x=.returned (.tuple #[.agg #[.int .i64 0,.int .i64 0,.int .i64 0,.int .i64 0,.string ⟨#[]⟩,.slice ao' 0 cp'],.agg #[.string e.key,.int .i64 e.page,.int .i64 e.slot],.int .i64 3])∧Only (fun _=>False) W w'):=fun W ho=>rblaid_long W X s e k B ao cp (hG.nm (hS.more ho)) hF hsb hb hf hs
  have HBY:Hid (∀ (W:World) (ao1:Option Addr) (cp1:Nat),At W (fun _=>True) ((X.left j).z 0 ao1 cp1)→Calls Tryz.prog 22 #[.agg ((X.left j).z 0 ao1 cp1).ar,.agg #[.string e.key,.int .i64 e.page,.int .i64 e.slot]] W fun x w'=>x=.returned (.tuple #[.bool false,.int .i64 0])∧Only (fun _=>False) W w'):=fun W ao1 cp1 hA=>by
    obtain ⟨⟨B1,hS1,_⟩,hF1⟩:=hA
    have q:=fbeyond_nd W 0 (X.left j) e B1 cp1 ao1 ((hG.left hn2 hj2).nm hS1) ⟨by omega,by omega⟩
    unfold byV at q
    rw [if_pos he,show byd (X.left j).hi e=false from hy] at q
    exact q
  have hft:=hok.fitsL hG.kok hb hc9 hf hy j
  have HLD:Hid (∀ (W:World) (ao1:Option Addr) (cp1:Nat),At W (fun _=>True) ((X.left j).z 0 ao1 cp1)→Calls Tryz.prog 16 #[.agg ((X.left j).z 0 ao1 cp1).ar,.string s] W fun x w'=>∃ ao' cp',x=.returned (.tuple #[.agg (((X.left j).ins e k).z 0 ao' cp').ar,.agg #[.string e.key,.int .i64 e.page,.int .i64 e.slot],.int .i64 0])∧At w' (fun q=>W.heap.size≤q) (((X.left j).ins e k).z 0 ao' cp')∧Only (fun _=>False) W w'):=fun W ao1 cp1 hA=>rblaid_fit W (X.left j) s e k ao1 cp1 (hG.left hn2 hj2) hA hsb hft.1 hft.2 hs
  have hnl:X.nl e k j=(X.left j).ins e k:=by unfold Nd.nl; rw [if_neg (by rw [hy]; simp)]
  have hnr:X.nr e k=X.right:=by unfold Nd.nr; rw [if_neg (by rw [hy]; simp)]
  have HNL:=hide (And.intro hnl hnr)
  have HRO:Hid (∀ W,Calls Tryz.prog 23 #[.int .i64 ((X.lv:Int)+1),.int .i64 I,X.bord.agg,.int .i64 (j:Int)] W fun x w'=>∃ ao cp,x=.returned (.tuple #[.agg (Pz.ar ⟨Pg.none,ao,cp⟩),.int .i64 140])∧At w' (fun k=>W.heap.size≤k) ⟨Pg.none,ao,cp⟩∧Only (fun _=>False) W w'):=fun W=>by
    refine (froot_no W ((X.lv:Int)+1) I j X.bord (by omega) (hok.bord hn2).1 hv).mono ?_
    rintro x w' ⟨B9,ao9,cp9,rfl,s9,f9,o9,n9⟩
    exact ⟨ao9,cp9,rfl,⟨⟨B9,s9,fun h=>absurd h (by simp [Pg.none])⟩,f9⟩,o9⟩
  have hLb:-1≤(X.lv:Int)∧(X.lv:Int)≤255:=by have:=hG.lvl; omega
  have hxtra:=hv
  clear hG hS ha hF hs hZ hN hc hJ hn2 hfc hok hc9 he hjj hj2 hft hnl hnr hsb hb hf hy hxtra hv
  obtain ⟨L,hL⟩:=exq ((X.lv:Int))
  obtain ⟨R,hR⟩:=exq ((X.rt:Int))
  obtain ⟨h,hh⟩:=exq (hiB X.hi)
  obtain ⟨n,hn⟩:=exq (X.items.length)
  rw [hL,hR,hh,hn] at HX HND HSP HLG ⊢
  rw [hL] at HRO hLb
  clear hL hR hh hn
  go_enter Tryz.func7,Tryz.ntmps7
  go_upto_region 1 with fail
  obtain ⟨W0,hW0⟩:=exq ((w.alloc (.cells #[.int .i64 a,.int .i64 3,.int .i64 L,.int .i64 R,.string h,.slice ao n cp] 24)).alloc (.cells Br.none.cells 36))
  rw [hW0] at HX ⊢
  clear hW0
  obtain ⟨p0,p1,p2,p3,p4,p5,_⟩:=HX.out.1
  go_wp2_with fail
  refine (HND.out _ HX.out.2.2).mono ?_
  rintro x w1 ⟨rfl,ho⟩
  have HP1:=hide (HX.out.1.more ho)
  have HR1:=hide (HX.out.2.1.more ho)
  have HO1:=hide (o2 HX.out.2.2 ho)
  clear ho p0 p1 p2 p3 p4 p5 HX HND
  go_wp2_with fail
  refine (HRT.out _ HO1.out).mono ?_
  rintro x w2 ⟨rfl,ho⟩
  have HP2:=hide (HP1.out.more ho)
  have HR2:=hide (HR1.out.more ho)
  have HO2:=hide (o2 HO1.out ho)
  clear ho HR1 HO1 HP1 HRT
  obtain ⟨p0,p1,p2,p3,p4,p5,g0,_⟩:=HP2.out
  go_upto_region 9 with fail
  have HOS:Hid (Only (fun k=>k=w.heap.size) w2 (w2.setCell ⟨w.heap.size,0,none⟩ (.int .i64 0))):=Only.setCell w2 ⟨w.heap.size,0,none⟩ _ rfl
  have HP3:=hide (HP2.out.s0 (.int .i64 0))
  have HR3:=hide (HR2.out.kept HOS.out (by omega))
  have HO3:=hide (HO2.out.trans HOS.out (fun i hi e=>by omega))
  obtain ⟨w3,hw3⟩:=exq (w2.setCell ⟨w.heap.size,0,none⟩ (.int .i64 0))
  rw [hw3] at HP3 HR3 HO3 ⊢
  clear hw3 p0 p1 p2 p3 p4 p5 g0 HP2 HR2 HO2 HOS
  have hf1:=(HO3.out.cell (p:=⟨fb,fo+1,none⟩) HFB.out (fun h=>h)).trans HFC.out
  obtain ⟨p0,p1,p2,p3,p4,p5,_⟩:=HP3.out
  go_wp2_with fail
  refine (HSP.out _ HO3.out).mono ?_
  rintro x w4 ⟨ao1,cp1,ao2,cp2,rfl,hA1,hA2,ho⟩
  have HBY2:=hide (fun W ha=>HBY.out W ao1 cp1 ha)
  have HLD2:=hide (fun W ha=>HLD.out W ao1 cp1 ha)
  clear HBY HLD
  obtain ⟨z1,hz1⟩:=exq ((X.left j).z 0 ao1 cp1)
  obtain ⟨z2,hz2⟩:=exq (X.right.z 0 ao2 cp2)
  obtain ⟨bd,hbd⟩:=exq (X.bord)
  rw [hz1] at hA1 HBY2 HLD2
  rw [hz2] at hA2
  rw [hz1,hz2,hbd]
  rw [hbd] at HRO
  have HZ:=hide (And.intro hz1 hz2)
  have HBDX:=hide hbd
  have HA1:=hide (hA1.old.mono (Q:=fun k=>w.heap.size+1 < k∧k < w4.heap.size) (fun k hk=>⟨Nat.lt_of_lt_of_le HR3.out.lt hk.1,hk.2⟩))
  have HA2:=hide (hA2.old.mono (Q:=fun k=>w.heap.size+1 < k∧k < w4.heap.size) (fun k hk=>⟨Nat.lt_of_lt_of_le HR3.out.lt hk.1,hk.2⟩))
  have HW4:=hide ho
  clear hz1 hz2 hbd hA1 hA2 p0 p1 p2 p3 p4 p5 hf1 ho
  unfold Pz.ar En.agg
  go_upto_region 11 with fail
  have HX5:=hide (sp_newJ w4 (.int .i64 z1.p.lsn) (.int .i64 z1.p.kind) (.int .i64 z1.p.level) (.int .i64 z1.p.right) (.string z1.p.high) (.slice z1.ao z1.p.items.length z1.cp) (.int .i64 z2.p.lsn) (.int .i64 z2.p.kind) (.int .i64 z2.p.level) (.int .i64 z2.p.right) (.string z2.p.high) (.slice z2.ao z2.p.items.length z2.cp) bd)
  obtain ⟨w5,hw5⟩:=exq (((w4.alloc (.cells #[.int .i64 z1.p.lsn,.int .i64 z1.p.kind,.int .i64 z1.p.level,.int .i64 z1.p.right,.string z1.p.high,.slice z1.ao z1.p.items.length z1.cp] 24)).alloc (.cells #[.int .i64 z2.p.lsn,.int .i64 z2.p.kind,.int .i64 z2.p.level,.int .i64 z2.p.right,.string z2.p.high,.slice z2.ao z2.p.items.length z2.cp] 24)).alloc (.cells #[.string bd.key,.int .i64 bd.page,.int .i64 bd.slot] 41))
  rw [hw5] at HX5 ⊢
  clear hw5
  obtain ⟨q,hq⟩:=exq (w4.heap.size)
  have HQ:Hid (w.heap.size+1 < q):=by have:=HR3.out.lt; have:=HW4.out.size; unfold Hid; omega
  rw [hq] at HX5 HA1 HA2 ⊢
  clear hq
  have HO5:=hide (o2 HW4.out HX5.out.2.2.2)
  have HP5:=hide (HP3.out.more HO5.out)
  have HR5:=hide (HR3.out.more HO5.out)
  have HA15:=hide (HA1.out.more HX5.out.2.2.2)
  have HA25:=hide (HA2.out.more HX5.out.2.2.2)
  have HWW5:=hide (o2 HO3.out HO5.out)
  clear HA1 HA2 HP3 HR3 HO5 HW4 HO3
  obtain ⟨p0,p1,p2,p3,p4,p5,_⟩:=HP5.out
  go_wp2_with fail
  refine (HLG.out _ HWW5.out).mono ?_
  rintro x w6 ⟨ao9,cp9,rfl,ho⟩
  have HPE:=hide (pe_new w6 (.int .i64 0) (.int .i64 0) (.int .i64 0) (.int .i64 0) (.string ⟨#[]⟩) (.slice ao9 0 cp9) e)
  clear p0 p1 p2 p3 p4 p5 HLG
  go_upto_region 14 with fail
  obtain ⟨w7,hw7⟩:=exq ((w6.alloc (.cells #[.int .i64 0,.int .i64 0,.int .i64 0,.int .i64 0,.string ⟨#[]⟩,.slice ao9 0 cp9] 24)).alloc (.cells #[.string e.key,.int .i64 e.page,.int .i64 e.slot] 41))
  rw [hw7] at HPE ⊢
  clear hw7
  have HO7:=hide (o2 ho HPE.out.2.2)
  have HP7:=hide (HP5.out.more HO7.out)
  have HR7:=hide (HR5.out.more HO7.out)
  have HQ1:=hide (HX5.out.1.more HO7.out)
  have HQ2:=hide (HX5.out.2.1.more HO7.out)
  have HE7:=hide (HX5.out.2.2.1.more HO7.out)
  have HA17:=hide (HA15.out.more HO7.out)
  have HA27:=hide (HA25.out.more HO7.out)
  have HWW7:=hide (o2 HWW5.out HO7.out)
  clear ho HX5 HP5 HR5 HA15 HA25 HO7 HWW5
  obtain ⟨q0,q1,q2,q3,q4,q5,_⟩:=HQ1.out
  obtain ⟨e0,e1,e2,_⟩:=HPE.out.2.1
  go_wp2_with fail
  refine (HBY2.out _ (HA17.out.mono (fun _ _=>trivial))).mono ?_
  rintro x w8 ⟨rfl,ho⟩
  have HP8:=hide (HP7.out.more ho)
  have HR8:=hide (HR7.out.more ho)
  have HQ18:=hide (HQ1.out.more ho)
  have HQ28:=hide (HQ2.out.more ho)
  have HE8:=hide (HE7.out.more ho)
  have HA18:=hide (HA17.out.more ho)
  have HA28:=hide (HA27.out.more ho)
  have HWW8:=hide (o2 HWW7.out ho)
  clear ho q0 q1 q2 q3 q4 q5 e0 e1 e2 HP7 HR7 HQ1 HQ2 HE7 HA17 HA27 HWW7 HPE HBY2
  obtain ⟨q0,q1,q2,q3,q4,q5,_⟩:=HQ18.out
  go_wp2_with fail
  refine (HLD2.out _ (HA18.out.mono (fun _ _=>trivial))).mono ?_
  rintro x w9 ⟨ao3,cp3,rfl,hA3,ho⟩
  obtain ⟨z3,hz3⟩:=exq (((X.left j).ins e k).z 0 ao3 cp3)
  rw [hz3] at hA3 ⊢
  have HZ3:=hide hz3
  clear hz3 q0 q1 q2 q3 q4 q5 HLD2
  unfold Pz.ar
  have HQo:=hide (HQ18.out.more ho)
  obtain ⟨q0,q1,q2,q3,q4,q5,g0,g1,g2,g3,g4,g5,ql⟩:=HQo.out
  go_upto_region 19 with fail
  clear q0 q1 q2 q3 q4 q5 g0 g1 g2 g3 g4 g5 ql
  have HSX:Hid (Only (fun k=>k=q) w9 ((((((w9.setCell ⟨q,0,none⟩ (.int .i64 z3.p.lsn)).setCell ⟨q,1,none⟩ (.int .i64 z3.p.kind)).setCell ⟨q,2,none⟩ (.int .i64 z3.p.level)).setCell ⟨q,3,none⟩ (.int .i64 z3.p.right)).setCell ⟨q,4,none⟩ (.string z3.p.high)).setCell ⟨q,5,none⟩ (.slice z3.ao z3.p.items.length z3.cp))):=Only.six w9 q (.int .i64 z3.p.lsn) (.int .i64 z3.p.kind) (.int .i64 z3.p.level) (.int .i64 z3.p.right) (.string z3.p.high) (.slice z3.ao z3.p.items.length z3.cp)
  have HQn:=hide (HQo.out.six (.int .i64 z3.p.lsn) (.int .i64 z3.p.kind) (.int .i64 z3.p.level) (.int .i64 z3.p.right) (.string z3.p.high) (.slice z3.ao z3.p.items.length z3.cp))
  have HQm:=hide ((HQ28.out.more ho).kept HSX.out (by omega))
  have HP9:=hide ((HP8.out.more ho).kept HSX.out (by have:=HQ.out; omega))
  have HR9:=hide ((HR8.out.more ho).kept HSX.out (by have:=HQ.out; omega))
  have HE9:=hide ((HE8.out.more ho).kept HSX.out (by omega))
  have HWW9:Hid (Only (fun _=>False) w ((((((w9.setCell ⟨q,0,none⟩ (.int .i64 z3.p.lsn)).setCell ⟨q,1,none⟩ (.int .i64 z3.p.kind)).setCell ⟨q,2,none⟩ (.int .i64 z3.p.level)).setCell ⟨q,3,none⟩ (.int .i64 z3.p.right)).setCell ⟨q,4,none⟩ (.string z3.p.high)).setCell ⟨q,5,none⟩ (.slice z3.ao z3.p.items.length z3.cp))):=(o2 HWW8.out ho).trans HSX.out (fun i hi e=>by have:=HQ.out; omega)
  have HQL:Hid (w.heap.size+1 < q∧q+1 < w8.heap.size):=⟨HQ.out,HQ28.out.lt⟩
  have HAn:=hide ((hA3.kept HSX.out (fun k hk e=>by have:=HQL.out; omega)).mono (Q:=fun k=>w.heap.size+1 < k) (fun k hk=>by have:=HQL.out; omega))
  have HAo:=hide (((HA28.out.more ho).kept HSX.out (fun k hk e=>by have:=HQL.out; omega)).mono (Q:=fun k=>w.heap.size+1 < k) (fun k hk=>hk.1))
  obtain ⟨W10,hW10⟩:=exq (((((((w9.setCell ⟨q,0,none⟩ (.int .i64 z3.p.lsn)).setCell ⟨q,1,none⟩ (.int .i64 z3.p.kind)).setCell ⟨q,2,none⟩ (.int .i64 z3.p.level)).setCell ⟨q,3,none⟩ (.int .i64 z3.p.right)).setCell ⟨q,4,none⟩ (.string z3.p.high)).setCell ⟨q,5,none⟩ (.slice z3.ao z3.p.items.length z3.cp)))
  rw [hW10] at HQn HQm HP9 HR9 HE9 HWW9 HAn HAo ⊢
  clear hW10 hA3 ho HSX HP8 HR8 HE8 HQ18 HQ28 HQo HA18 HA28 HWW8
  have HL10:=hide HQn.out
  have HR10:=hide HQm.out
  have HAL:=hide HAn.out
  have HAR:=hide HAo.out
  clear HQn HQm HAn HAo
  have HFB5:Hid (fb < W10.heap.size):=Nat.lt_of_lt_of_le HFB.out HWW9.out.size
  have hf5:=(HWW9.out.cell (p:=⟨fb,fo,none⟩) HFB.out (fun h=>h)).trans HFI.out
  have hLw:IntKind.i64.wrap (L+1)=L+1:=by rw [IntKind.wrap_i64]; omega
  unfold En.agg at HRO
  go_upto_region 23 with fail
  go_cut [23,24] (fun x y wx=>∃ b3 z4,x=.pointer (some ⟨b3,0,none⟩)∧y=.int .i64 140∧Hid (Pz3 W10 wx b3 z4∧∃ ao3 cp3,(⟨Pg.none,ao3,cp3⟩:Pz)=z4))
  case first=>
    refine wp_region_noPanic ?_
    refine wp_region_held_drew (S:=fun W=>Only (fun _=>False) W10 W) (by kernel_rfl) (Only.drew _ _) (fun hHeld=>?_)
    refine tkP 0 (.pointer (some ⟨w.heap.size,2,none⟩)) rfl ?_
    refine tkP 3 (.slice (some ⟨fb,fo,none⟩) 2 fc) rfl ?_
    refine tkQ 6 (.agg #[.string bd.key,.int .i64 bd.page,.int .i64 bd.slot]) rfl (yieldsIf_load_ev (by rfl) _ rfl rfl (fun W hW=>HE9.out.more hW)) ?_
    refine tkP 7 (.int .i64 (j:Int)) rfl ?_
    refine tkQ 1 (.int .i64 L) rfl (yieldsIf_load_cell (by rfl) 3 _ rfl _ rfl (fun W hW=>(HP9.out.more hW).c2) (fun W hc=>ld_int hc)) ?_
    refine tkP 4 (.pointer (some ⟨fb,fo,none⟩)) rfl ?_
    refine tkP 2 (.int .i64 (L+1)) rfl ?_
    refine tkQ 5 (.int .i64 I) rfl (yieldsIf_load_cell (by rfl) 3 _ rfl _ rfl (fun W hW=>(hW.cell (p:=⟨fb,fo,none⟩) HFB5.out (fun h=>h)).trans hf5) (fun W hc=>ld_int hc)) ?_
    refine wpAnyH_ready (rs:=[8,12]) (by kernel_rfl) (by simp) ?_
    refine arC rfl (fun K hK=>?_) (arC rfl (fun K hK=>?_) (AllReadyH.nil))
    · go_simp
      refine (HRO.out _).mono ?_
      rintro x x1 ⟨ao3,cp3,rfl,hA3,ho3⟩
      obtain ⟨z4,hz4⟩:=exq ((⟨Pg.none,ao3,cp3⟩:Pz))
      rw [hz4] at hA3 ⊢
      have HZ4:Hid (∃ ao3 cp3,(⟨Pg.none,ao3,cp3⟩:Pz)=z4):=⟨ao3,cp3,hz4⟩
      have HX1:=hide (o2 hHeld ho3)
      have HA3:=hide (hA3.mono (Q:=fun k=>W10.heap.size≤k) (fun k hk=>Nat.le_trans hHeld.size hk))
      clear hz4 hA3 ho3
      unfold Pz.ar
      refine hK.out _ _ (HX1.out) (fun hHeld=>?_)
      clear hK K
      try simp only [Act.put,lsA,lsB,lsC]
      refine tkP 9 (.tuple #[.agg #[.int .i64 z4.p.lsn,.int .i64 z4.p.kind,.int .i64 z4.p.level,.int .i64 z4.p.right,.string z4.p.high,.slice z4.ao z4.p.items.length z4.cp],.int .i64 140]) rfl ?_
      refine tkP 10 (.agg #[.int .i64 z4.p.lsn,.int .i64 z4.p.kind,.int .i64 z4.p.level,.int .i64 z4.p.right,.string z4.p.high,.slice z4.ao z4.p.items.length z4.cp]) rfl ?_
      refine tkP 11 (.int .i64 140) rfl ?_
      refine rd1 12 rfl (fun K hK=>?_)
      go_simp
      refine hK.out _ _ (o2 HX1.out (onlyA _ _)) (fun hHeld=>?_)
      clear hK K
      try simp only [Act.put,lsA,lsB,lsC]
      refine rd1 13 rfl (fun K hK=>?_)
      go_simp
      have HNV:=hide (Pz3.after HX1.out HA3.out)
      refine hK.out _ _ (HNV.out.only) (fun hHeld=>?_)
      clear hK K
      try simp only [Act.put,lsA,lsB,lsC]
      refine tkP 14 (.int .i64 140) rfl ?_
      refine dnN ?_
      go_wp2_with fail
      go_meet
      exact ⟨_,z4,rfl,rfl,HNV.out,HZ4.out⟩
    · go_simp
      have HZA:Hid (Pag ((W10.alloc (.cells #[.int .i64 0,.int .i64 0,.int .i64 0,.int .i64 0,.string ⟨#[]⟩,.slice none 0 0] 24)).drew) W10.heap.size (.int .i64 0) (.int .i64 0) (.int .i64 0) (.int .i64 0) (.string ⟨#[]⟩) (.slice none 0 0)):=(Pag.new W10 _ _ _ _ _ _).more (Only.drew _ _)
      have HOA:Hid (Only (fun _=>False) W10 ((W10.alloc (.cells #[.int .i64 0,.int .i64 0,.int .i64 0,.int .i64 0,.string ⟨#[]⟩,.slice none 0 0] 24)).drew)):=o2 (onlyA _ _) (Only.drew _ _)
      refine hK.out _ _ (HOA.out) (fun hHeld=>?_)
      clear hK K
      try simp only [Act.put,lsA,lsB,lsC]
      refine rd1 8 rfl (fun K hK=>?_)
      go_simp
      refine (HRO.out _).mono ?_
      rintro x x1 ⟨ao3,cp3,rfl,hA3,ho3⟩
      obtain ⟨z4,hz4⟩:=exq ((⟨Pg.none,ao3,cp3⟩:Pz))
      rw [hz4] at hA3 ⊢
      have HZ4:Hid (∃ ao3 cp3,(⟨Pg.none,ao3,cp3⟩:Pz)=z4):=⟨ao3,cp3,hz4⟩
      have HX1:=hide (o2 hHeld ho3)
      have HA3:=hide hA3
      have HY1:=hide ho3
      have HZ7:=hide (HZA.out.more ho3)
      obtain ⟨q0,q1,q2,q3,q4,q5,g0,g1,g2,g3,g4,g5,ql⟩:=HZ7.out
      clear hz4 hA3 ho3
      unfold Pz.ar
      refine hK.out _ _ (HX1.out) (fun hHeld=>?_)
      clear hK K
      try simp only [Act.put,lsA,lsB,lsC]
      refine tkP 9 (.tuple #[.agg #[.int .i64 z4.p.lsn,.int .i64 z4.p.kind,.int .i64 z4.p.level,.int .i64 z4.p.right,.string z4.p.high,.slice z4.ao z4.p.items.length z4.cp],.int .i64 140]) rfl ?_
      refine tkP 10 (.agg #[.int .i64 z4.p.lsn,.int .i64 z4.p.kind,.int .i64 z4.p.level,.int .i64 z4.p.right,.string z4.p.high,.slice z4.ao z4.p.items.length z4.cp]) rfl ?_
      refine tkP 11 (.int .i64 140) rfl ?_
      refine rd1 13 rfl (fun K hK=>?_)
      go_simp
      have HNV:=hide (Pz3.before (Nat.le_refl _) HZA.out.lt HOA.out HY1.out HZ7.out HA3.out)
      refine hK.out _ _ (HNV.out.only) (fun hHeld=>?_)
      clear hK K
      try simp only [Act.put,lsA,lsB,lsC]
      refine tkP 14 (.int .i64 140) rfl ?_
      refine dnN ?_
      go_wp2_with fail
      go_meet
      exact ⟨_,z4,rfl,rfl,HNV.out,HZ4.out⟩
  case rest=>
    obtain ⟨b3,z4,rfl,rfl,HZ4⟩:=hcut
    have HR11:=hide (HR9.out.more HZ4.out.1.only)
    have HO11:=hide (o2 HWW9.out HZ4.out.1.only)
    go_wp2_with (first | (refine wpList_build_bnone rfl rfl ?_; go_frame) | (refine wpList_put_br rfl (.tmp 8) (.tmp 119) rfl (w.heap.size+1) rfl Br.none.cl rfl Br.none rfl HR11.out ?_; intro W9 HW9; go_frame))
    refine bodyPost_ret (results_br rfl rfl HW9.out.at_) rfl ?_
    exact ⟨rfl,HO11.out.trans HW9.out.only (fun i hi e=>by omega)⟩
set_option maxHeartbeats 6400000 in
theorem rbenter_root_true (w:World) (a page:Int) (X:Nd) (s:ByteArray) (B cp:Nat) (ao:Option Addr) (hG:Gd X) (hS:Strs w B ao X.items) (ha:0≤a∧a < 9223372036854775808) (hF:Fit ao X.items.length cp) (hs:s.size≤140737488355328) (I J:Int) (fb fc fo:Nat) (hZ:Ns w fb (some ⟨fb,fo,none⟩) [I,J]) (hN:X.need page (brd X.lv s)=(2,0)) (hc:RtP [I,J] 2) (e:En) (k:Int) (hsb:brd X.lv s=some (e,k)) (hb:¬ X.bad e) (hf:512 < (X.ins e k).size) (hJ:okC J=true) (hy:byd X.bord e=true) (hv:255 < (X.lv:Int)+1∨((X.lv:Int)+1≤255∧okC I=false)) :
    Calls Tryz.prog 7 #[.agg #[.int .i64 a,.int .i64 3,.int .i64 X.lv,.int .i64 X.rt,.string (hiB X.hi),.slice ao X.items.length cp],.int .i64 page,.string s,.slice (some ⟨fb,fo,none⟩) 2 fc] w fun x w'=>x=.returned (.tuple #[.agg Br.none.cells,.int .i64 140])∧Only (fun _=>False) w w':=by
  have HX:=hide (en_new w (.int .i64 a) (.int .i64 3) (.int .i64 X.lv) (.int .i64 X.rt) (.string (hiB X.hi)) (.slice ao X.items.length cp))
  have HND:Hid (∀ W,Only (fun _=>False) w W→Calls Tryz.prog 5 #[.agg #[.int .i64 a,.int .i64 3,.int .i64 X.lv,.int .i64 X.rt,.string (hiB X.hi),.slice ao X.items.length cp],.int .i64 page,.string s] W fun x w'=>x=.returned (.tuple #[.int .i64 2,.int .i64 0])∧Only (fun _=>False) W w'):=fun W ho=>by
    have q:=rbneed_nd W a page X s B cp ao (hG.nm (hS.more ho)) ha hF hs
    rw [hN] at q
    exact q
  obtain ⟨fo',hfo',hfc⟩:=hZ.at_ (by simp)
  cases hfo'
  have HFC:Hid (w.cell? ⟨fb,fo+1,none⟩=some (.int .i64 J)):=hfc 1 (by simp)
  have HFB:Hid (fb < w.heap.size):=World.block_lt_of_cell? w _ HFC.out
  have HRT:Hid (∀ W,Only (fun _=>False) w W→Calls Tryz.prog 20 #[.slice (some ⟨fb,fo,none⟩) 2 fc,.int .i64 2] W fun x w'=>x=.returned (.bool true)∧Only (fun _=>False) W w'):=fun W ho=>by
    refine (rbright_any W fb fc (some ⟨fb,fo,none⟩) [I,J] 2 ⟨fun h0=>⟨fo,rfl,fun j hj=>(ho.cell (p:=⟨fb,fo+j,none⟩) HFB.out (fun h=>h)).trans (hfc j hj)⟩,hZ.len⟩ (fun h0=>Nat.lt_of_lt_of_le HFB.out ho.size)).mono ?_
    rintro x w' ⟨⟨b,rfl,hb⟩,o⟩
    rw [hb.2 hc]
    exact ⟨rfl,o⟩
  have HFI:Hid (w.cell? ⟨fb,fo,none⟩=some (.int .i64 I)):=by have q:=hfc 0 (by simp); rwa [Nat.add_zero] at q
  have hlo:=hG.ok
  obtain ⟨lo,hok⟩:=hlo
  have hc9:0 < X.lv→okC k=true:=fun v=>by
    unfold brd at hsb
    rw [if_neg (by omega)] at hsb
    exact (decS_some hsb).2.1
  have hn2:2≤X.ks.length:=by have:=(hok.two hG.kok hb hc9 hf).1; omega
  have he:=(Nd.good hb).1
  have hjj:=okC_iff.1 hJ
  obtain ⟨j,hj⟩:∃ j:Nat,(j:Int)=J:=⟨J.toNat,by omega⟩
  have hj2:j≤65535:=by omega
  subst hj
  have HSP:Hid (∀ W,Only (fun _=>False) w W→Calls Tryz.prog 21 #[.agg #[.int .i64 0,.int .i64 3,.int .i64 X.lv,.int .i64 X.rt,.string (hiB X.hi),.slice ao X.items.length cp],.int .i64 (j:Int)] W fun x w'=>SpR W w' x 0 X j):=fun W ho=>fsplit_nd W 0 X j B cp ao (hG.nm (hS.more ho)) hF hJ hn2 ⟨by omega,by omega⟩
  have HLG:Hid (∀ W,Only (fun _=>False) w W→Calls Tryz.prog 16 #[.agg #[.int .i64 0,.int .i64 3,.int .i64 X.lv,.int .i64 X.rt,.string (hiB X.hi),.slice ao X.items.length cp],.string s] W fun x w'=>∃ ao' cp',x=.returned (.tuple #[.agg #[.int .i64 0,.int .i64 0,.int .i64 0,.int .i64 0,.string ⟨#[]⟩,.slice ao' 0 cp'],.agg #[.string e.key,.int .i64 e.page,.int .i64 e.slot],.int .i64 3])∧Only (fun _=>False) W w'):=fun W ho=>rblaid_long W X s e k B ao cp (hG.nm (hS.more ho)) hF hsb hb hf hs
  have HBY:Hid (∀ (W:World) (ao1:Option Addr) (cp1:Nat),At W (fun _=>True) ((X.left j).z 0 ao1 cp1)→Calls Tryz.prog 22 #[.agg ((X.left j).z 0 ao1 cp1).ar,.agg #[.string e.key,.int .i64 e.page,.int .i64 e.slot]] W fun x w'=>x=.returned (.tuple #[.bool true,.int .i64 0])∧Only (fun _=>False) W w'):=fun W ao1 cp1 hA=>by
    obtain ⟨⟨B1,hS1,_⟩,hF1⟩:=hA
    have q:=fbeyond_nd W 0 (X.left j) e B1 cp1 ao1 ((hG.left hn2 hj2).nm hS1) ⟨by omega,by omega⟩
    unfold byV at q
    rw [if_pos he,show byd (X.left j).hi e=true from hy] at q
    exact q
  have hft:=hok.fitsR hG.kok hb hc9 hf
  have HLD:Hid (∀ (W:World) (ao1:Option Addr) (cp1:Nat),At W (fun _=>True) (X.right.z 0 ao1 cp1)→Calls Tryz.prog 16 #[.agg (X.right.z 0 ao1 cp1).ar,.string s] W fun x w'=>∃ ao' cp',x=.returned (.tuple #[.agg ((X.right.ins e k).z 0 ao' cp').ar,.agg #[.string e.key,.int .i64 e.page,.int .i64 e.slot],.int .i64 0])∧At w' (fun q=>W.heap.size≤q) ((X.right.ins e k).z 0 ao' cp')∧Only (fun _=>False) W w'):=fun W ao1 cp1 hA=>rblaid_fit W X.right s e k ao1 cp1 (hG.right hn2) hA hsb hft.1 hft.2 hs
  have hnl:X.nl e k j=X.left j:=by unfold Nd.nl; rw [if_pos hy]
  have hnr:X.nr e k=X.right.ins e k:=by unfold Nd.nr; rw [if_pos hy]
  have HNL:=hide (And.intro hnl hnr)
  have HRO:Hid (∀ W,Calls Tryz.prog 23 #[.int .i64 ((X.lv:Int)+1),.int .i64 I,X.bord.agg,.int .i64 (j:Int)] W fun x w'=>∃ ao cp,x=.returned (.tuple #[.agg (Pz.ar ⟨Pg.none,ao,cp⟩),.int .i64 140])∧At w' (fun k=>W.heap.size≤k) ⟨Pg.none,ao,cp⟩∧Only (fun _=>False) W w'):=fun W=>by
    refine (froot_no W ((X.lv:Int)+1) I j X.bord (by omega) (hok.bord hn2).1 hv).mono ?_
    rintro x w' ⟨B9,ao9,cp9,rfl,s9,f9,o9,n9⟩
    exact ⟨ao9,cp9,rfl,⟨⟨B9,s9,fun h=>absurd h (by simp [Pg.none])⟩,f9⟩,o9⟩
  have hLb:-1≤(X.lv:Int)∧(X.lv:Int)≤255:=by have:=hG.lvl; omega
  have hxtra:=hv
  clear hG hS ha hF hs hZ hN hc hJ hn2 hfc hok hc9 he hjj hj2 hft hnl hnr hsb hb hf hy hxtra hv
  obtain ⟨L,hL⟩:=exq ((X.lv:Int))
  obtain ⟨R,hR⟩:=exq ((X.rt:Int))
  obtain ⟨h,hh⟩:=exq (hiB X.hi)
  obtain ⟨n,hn⟩:=exq (X.items.length)
  rw [hL,hR,hh,hn] at HX HND HSP HLG ⊢
  rw [hL] at HRO hLb
  clear hL hR hh hn
  go_enter Tryz.func7,Tryz.ntmps7
  go_upto_region 1 with fail
  obtain ⟨W0,hW0⟩:=exq ((w.alloc (.cells #[.int .i64 a,.int .i64 3,.int .i64 L,.int .i64 R,.string h,.slice ao n cp] 24)).alloc (.cells Br.none.cells 36))
  rw [hW0] at HX ⊢
  clear hW0
  obtain ⟨p0,p1,p2,p3,p4,p5,_⟩:=HX.out.1
  go_wp2_with fail
  refine (HND.out _ HX.out.2.2).mono ?_
  rintro x w1 ⟨rfl,ho⟩
  have HP1:=hide (HX.out.1.more ho)
  have HR1:=hide (HX.out.2.1.more ho)
  have HO1:=hide (o2 HX.out.2.2 ho)
  clear ho p0 p1 p2 p3 p4 p5 HX HND
  go_wp2_with fail
  refine (HRT.out _ HO1.out).mono ?_
  rintro x w2 ⟨rfl,ho⟩
  have HP2:=hide (HP1.out.more ho)
  have HR2:=hide (HR1.out.more ho)
  have HO2:=hide (o2 HO1.out ho)
  clear ho HR1 HO1 HP1 HRT
  obtain ⟨p0,p1,p2,p3,p4,p5,g0,_⟩:=HP2.out
  go_upto_region 9 with fail
  have HOS:Hid (Only (fun k=>k=w.heap.size) w2 (w2.setCell ⟨w.heap.size,0,none⟩ (.int .i64 0))):=Only.setCell w2 ⟨w.heap.size,0,none⟩ _ rfl
  have HP3:=hide (HP2.out.s0 (.int .i64 0))
  have HR3:=hide (HR2.out.kept HOS.out (by omega))
  have HO3:=hide (HO2.out.trans HOS.out (fun i hi e=>by omega))
  obtain ⟨w3,hw3⟩:=exq (w2.setCell ⟨w.heap.size,0,none⟩ (.int .i64 0))
  rw [hw3] at HP3 HR3 HO3 ⊢
  clear hw3 p0 p1 p2 p3 p4 p5 g0 HP2 HR2 HO2 HOS
  have hf1:=(HO3.out.cell (p:=⟨fb,fo+1,none⟩) HFB.out (fun h=>h)).trans HFC.out
  obtain ⟨p0,p1,p2,p3,p4,p5,_⟩:=HP3.out
  go_wp2_with fail
  refine (HSP.out _ HO3.out).mono ?_
  rintro x w4 ⟨ao1,cp1,ao2,cp2,rfl,hA1,hA2,ho⟩
  have HBY2:=hide (fun W ha=>HBY.out W ao1 cp1 ha)
  have HLD2:=hide (fun W ha=>HLD.out W ao2 cp2 ha)
  clear HBY HLD
  obtain ⟨z1,hz1⟩:=exq ((X.left j).z 0 ao1 cp1)
  obtain ⟨z2,hz2⟩:=exq (X.right.z 0 ao2 cp2)
  obtain ⟨bd,hbd⟩:=exq (X.bord)
  rw [hz1] at hA1 HBY2
  rw [hz2] at hA2 HLD2
  rw [hz1,hz2,hbd]
  rw [hbd] at HRO
  have HZ:=hide (And.intro hz1 hz2)
  have HBDX:=hide hbd
  have HA1:=hide (hA1.old.mono (Q:=fun k=>w.heap.size+1 < k∧k < w4.heap.size) (fun k hk=>⟨Nat.lt_of_lt_of_le HR3.out.lt hk.1,hk.2⟩))
  have HA2:=hide (hA2.old.mono (Q:=fun k=>w.heap.size+1 < k∧k < w4.heap.size) (fun k hk=>⟨Nat.lt_of_lt_of_le HR3.out.lt hk.1,hk.2⟩))
  have HW4:=hide ho
  clear hz1 hz2 hbd hA1 hA2 p0 p1 p2 p3 p4 p5 hf1 ho
  unfold Pz.ar En.agg
  go_upto_region 11 with fail
  have HX5:=hide (sp_newJ w4 (.int .i64 z1.p.lsn) (.int .i64 z1.p.kind) (.int .i64 z1.p.level) (.int .i64 z1.p.right) (.string z1.p.high) (.slice z1.ao z1.p.items.length z1.cp) (.int .i64 z2.p.lsn) (.int .i64 z2.p.kind) (.int .i64 z2.p.level) (.int .i64 z2.p.right) (.string z2.p.high) (.slice z2.ao z2.p.items.length z2.cp) bd)
  obtain ⟨w5,hw5⟩:=exq (((w4.alloc (.cells #[.int .i64 z1.p.lsn,.int .i64 z1.p.kind,.int .i64 z1.p.level,.int .i64 z1.p.right,.string z1.p.high,.slice z1.ao z1.p.items.length z1.cp] 24)).alloc (.cells #[.int .i64 z2.p.lsn,.int .i64 z2.p.kind,.int .i64 z2.p.level,.int .i64 z2.p.right,.string z2.p.high,.slice z2.ao z2.p.items.length z2.cp] 24)).alloc (.cells #[.string bd.key,.int .i64 bd.page,.int .i64 bd.slot] 41))
  rw [hw5] at HX5 ⊢
  clear hw5
  obtain ⟨q,hq⟩:=exq (w4.heap.size)
  have HQ:Hid (w.heap.size+1 < q):=by have:=HR3.out.lt; have:=HW4.out.size; unfold Hid; omega
  rw [hq] at HX5 HA1 HA2 ⊢
  clear hq
  have HO5:=hide (o2 HW4.out HX5.out.2.2.2)
  have HP5:=hide (HP3.out.more HO5.out)
  have HR5:=hide (HR3.out.more HO5.out)
  have HA15:=hide (HA1.out.more HX5.out.2.2.2)
  have HA25:=hide (HA2.out.more HX5.out.2.2.2)
  have HWW5:=hide (o2 HO3.out HO5.out)
  clear HA1 HA2 HP3 HR3 HO5 HW4 HO3
  obtain ⟨p0,p1,p2,p3,p4,p5,_⟩:=HP5.out
  go_wp2_with fail
  refine (HLG.out _ HWW5.out).mono ?_
  rintro x w6 ⟨ao9,cp9,rfl,ho⟩
  have HPE:=hide (pe_new w6 (.int .i64 0) (.int .i64 0) (.int .i64 0) (.int .i64 0) (.string ⟨#[]⟩) (.slice ao9 0 cp9) e)
  clear p0 p1 p2 p3 p4 p5 HLG
  go_upto_region 14 with fail
  obtain ⟨w7,hw7⟩:=exq ((w6.alloc (.cells #[.int .i64 0,.int .i64 0,.int .i64 0,.int .i64 0,.string ⟨#[]⟩,.slice ao9 0 cp9] 24)).alloc (.cells #[.string e.key,.int .i64 e.page,.int .i64 e.slot] 41))
  rw [hw7] at HPE ⊢
  clear hw7
  have HO7:=hide (o2 ho HPE.out.2.2)
  have HP7:=hide (HP5.out.more HO7.out)
  have HR7:=hide (HR5.out.more HO7.out)
  have HQ1:=hide (HX5.out.1.more HO7.out)
  have HQ2:=hide (HX5.out.2.1.more HO7.out)
  have HE7:=hide (HX5.out.2.2.1.more HO7.out)
  have HA17:=hide (HA15.out.more HO7.out)
  have HA27:=hide (HA25.out.more HO7.out)
  have HWW7:=hide (o2 HWW5.out HO7.out)
  clear ho HX5 HP5 HR5 HA15 HA25 HO7 HWW5
  obtain ⟨q0,q1,q2,q3,q4,q5,_⟩:=HQ1.out
  obtain ⟨e0,e1,e2,_⟩:=HPE.out.2.1
  go_wp2_with fail
  refine (HBY2.out _ (HA17.out.mono (fun _ _=>trivial))).mono ?_
  rintro x w8 ⟨rfl,ho⟩
  have HP8:=hide (HP7.out.more ho)
  have HR8:=hide (HR7.out.more ho)
  have HQ18:=hide (HQ1.out.more ho)
  have HQ28:=hide (HQ2.out.more ho)
  have HE8:=hide (HE7.out.more ho)
  have HA18:=hide (HA17.out.more ho)
  have HA28:=hide (HA27.out.more ho)
  have HWW8:=hide (o2 HWW7.out ho)
  clear ho q0 q1 q2 q3 q4 q5 e0 e1 e2 HP7 HR7 HQ1 HQ2 HE7 HA17 HA27 HWW7 HPE HBY2
  obtain ⟨q0,q1,q2,q3,q4,q5,_⟩:=HQ28.out
  go_wp2_with fail
  refine (HLD2.out _ (HA28.out.mono (fun _ _=>trivial))).mono ?_
  rintro x w9 ⟨ao3,cp3,rfl,hA3,ho⟩
  obtain ⟨z3,hz3⟩:=exq ((X.right.ins e k).z 0 ao3 cp3)
  rw [hz3] at hA3 ⊢
  have HZ3:=hide hz3
  clear hz3 q0 q1 q2 q3 q4 q5 HLD2
  unfold Pz.ar
  have HQo:=hide (HQ28.out.more ho)
  obtain ⟨q0,q1,q2,q3,q4,q5,g0,g1,g2,g3,g4,g5,ql⟩:=HQo.out
  go_upto_region 19 with fail
  clear q0 q1 q2 q3 q4 q5 g0 g1 g2 g3 g4 g5 ql
  have HSX:Hid (Only (fun k=>k=(q+1)) w9 ((((((w9.setCell ⟨(q+1),0,none⟩ (.int .i64 z3.p.lsn)).setCell ⟨(q+1),1,none⟩ (.int .i64 z3.p.kind)).setCell ⟨(q+1),2,none⟩ (.int .i64 z3.p.level)).setCell ⟨(q+1),3,none⟩ (.int .i64 z3.p.right)).setCell ⟨(q+1),4,none⟩ (.string z3.p.high)).setCell ⟨(q+1),5,none⟩ (.slice z3.ao z3.p.items.length z3.cp))):=Only.six w9 (q+1) (.int .i64 z3.p.lsn) (.int .i64 z3.p.kind) (.int .i64 z3.p.level) (.int .i64 z3.p.right) (.string z3.p.high) (.slice z3.ao z3.p.items.length z3.cp)
  have HQn:=hide (HQo.out.six (.int .i64 z3.p.lsn) (.int .i64 z3.p.kind) (.int .i64 z3.p.level) (.int .i64 z3.p.right) (.string z3.p.high) (.slice z3.ao z3.p.items.length z3.cp))
  have HQm:=hide ((HQ18.out.more ho).kept HSX.out (by omega))
  have HP9:=hide ((HP8.out.more ho).kept HSX.out (by have:=HQ.out; omega))
  have HR9:=hide ((HR8.out.more ho).kept HSX.out (by have:=HQ.out; omega))
  have HE9:=hide ((HE8.out.more ho).kept HSX.out (by omega))
  have HWW9:Hid (Only (fun _=>False) w ((((((w9.setCell ⟨(q+1),0,none⟩ (.int .i64 z3.p.lsn)).setCell ⟨(q+1),1,none⟩ (.int .i64 z3.p.kind)).setCell ⟨(q+1),2,none⟩ (.int .i64 z3.p.level)).setCell ⟨(q+1),3,none⟩ (.int .i64 z3.p.right)).setCell ⟨(q+1),4,none⟩ (.string z3.p.high)).setCell ⟨(q+1),5,none⟩ (.slice z3.ao z3.p.items.length z3.cp))):=(o2 HWW8.out ho).trans HSX.out (fun i hi e=>by have:=HQ.out; omega)
  have HQL:Hid (w.heap.size+1 < q∧q+1 < w8.heap.size):=⟨HQ.out,HQ28.out.lt⟩
  have HAn:=hide ((hA3.kept HSX.out (fun k hk e=>by have:=HQL.out; omega)).mono (Q:=fun k=>w.heap.size+1 < k) (fun k hk=>by have:=HQL.out; omega))
  have HAo:=hide (((HA18.out.more ho).kept HSX.out (fun k hk e=>by have:=HQL.out; omega)).mono (Q:=fun k=>w.heap.size+1 < k) (fun k hk=>hk.1))
  obtain ⟨W10,hW10⟩:=exq (((((((w9.setCell ⟨(q+1),0,none⟩ (.int .i64 z3.p.lsn)).setCell ⟨(q+1),1,none⟩ (.int .i64 z3.p.kind)).setCell ⟨(q+1),2,none⟩ (.int .i64 z3.p.level)).setCell ⟨(q+1),3,none⟩ (.int .i64 z3.p.right)).setCell ⟨(q+1),4,none⟩ (.string z3.p.high)).setCell ⟨(q+1),5,none⟩ (.slice z3.ao z3.p.items.length z3.cp)))
  rw [hW10] at HQn HQm HP9 HR9 HE9 HWW9 HAn HAo ⊢
  clear hW10 hA3 ho HSX HP8 HR8 HE8 HQ18 HQ28 HQo HA18 HA28 HWW8
  have HL10:=hide HQm.out
  have HR10:=hide HQn.out
  have HAL:=hide HAo.out
  have HAR:=hide HAn.out
  clear HQn HQm HAn HAo
  have HFB5:Hid (fb < W10.heap.size):=Nat.lt_of_lt_of_le HFB.out HWW9.out.size
  have hf5:=(HWW9.out.cell (p:=⟨fb,fo,none⟩) HFB.out (fun h=>h)).trans HFI.out
  have hLw:IntKind.i64.wrap (L+1)=L+1:=by rw [IntKind.wrap_i64]; omega
  unfold En.agg at HRO
  go_upto_region 23 with fail
  go_cut [23,24] (fun x y wx=>∃ b3 z4,x=.pointer (some ⟨b3,0,none⟩)∧y=.int .i64 140∧Hid (Pz3 W10 wx b3 z4∧∃ ao3 cp3,(⟨Pg.none,ao3,cp3⟩:Pz)=z4))
  case first=>
    refine wp_region_noPanic ?_
    refine wp_region_held_drew (S:=fun W=>Only (fun _=>False) W10 W) (by kernel_rfl) (Only.drew _ _) (fun hHeld=>?_)
    refine tkP 0 (.pointer (some ⟨w.heap.size,2,none⟩)) rfl ?_
    refine tkP 3 (.slice (some ⟨fb,fo,none⟩) 2 fc) rfl ?_
    refine tkQ 6 (.agg #[.string bd.key,.int .i64 bd.page,.int .i64 bd.slot]) rfl (yieldsIf_load_ev (by rfl) _ rfl rfl (fun W hW=>HE9.out.more hW)) ?_
    refine tkP 7 (.int .i64 (j:Int)) rfl ?_
    refine tkQ 1 (.int .i64 L) rfl (yieldsIf_load_cell (by rfl) 3 _ rfl _ rfl (fun W hW=>(HP9.out.more hW).c2) (fun W hc=>ld_int hc)) ?_
    refine tkP 4 (.pointer (some ⟨fb,fo,none⟩)) rfl ?_
    refine tkP 2 (.int .i64 (L+1)) rfl ?_
    refine tkQ 5 (.int .i64 I) rfl (yieldsIf_load_cell (by rfl) 3 _ rfl _ rfl (fun W hW=>(hW.cell (p:=⟨fb,fo,none⟩) HFB5.out (fun h=>h)).trans hf5) (fun W hc=>ld_int hc)) ?_
    refine wpAnyH_ready (rs:=[8,12]) (by kernel_rfl) (by simp) ?_
    refine arC rfl (fun K hK=>?_) (arC rfl (fun K hK=>?_) (AllReadyH.nil))
    · go_simp
      refine (HRO.out _).mono ?_
      rintro x x1 ⟨ao3,cp3,rfl,hA3,ho3⟩
      obtain ⟨z4,hz4⟩:=exq ((⟨Pg.none,ao3,cp3⟩:Pz))
      rw [hz4] at hA3 ⊢
      have HZ4:Hid (∃ ao3 cp3,(⟨Pg.none,ao3,cp3⟩:Pz)=z4):=⟨ao3,cp3,hz4⟩
      have HX1:=hide (o2 hHeld ho3)
      have HA3:=hide (hA3.mono (Q:=fun k=>W10.heap.size≤k) (fun k hk=>Nat.le_trans hHeld.size hk))
      clear hz4 hA3 ho3
      unfold Pz.ar
      refine hK.out _ _ (HX1.out) (fun hHeld=>?_)
      clear hK K
      try simp only [Act.put,lsA,lsB,lsC]
      refine tkP 9 (.tuple #[.agg #[.int .i64 z4.p.lsn,.int .i64 z4.p.kind,.int .i64 z4.p.level,.int .i64 z4.p.right,.string z4.p.high,.slice z4.ao z4.p.items.length z4.cp],.int .i64 140]) rfl ?_
      refine tkP 10 (.agg #[.int .i64 z4.p.lsn,.int .i64 z4.p.kind,.int .i64 z4.p.level,.int .i64 z4.p.right,.string z4.p.high,.slice z4.ao z4.p.items.length z4.cp]) rfl ?_
      refine tkP 11 (.int .i64 140) rfl ?_
      refine rd1 12 rfl (fun K hK=>?_)
      go_simp
      refine hK.out _ _ (o2 HX1.out (onlyA _ _)) (fun hHeld=>?_)
      clear hK K
      try simp only [Act.put,lsA,lsB,lsC]
      refine rd1 13 rfl (fun K hK=>?_)
      go_simp
      have HNV:=hide (Pz3.after HX1.out HA3.out)
      refine hK.out _ _ (HNV.out.only) (fun hHeld=>?_)
      clear hK K
      try simp only [Act.put,lsA,lsB,lsC]
      refine tkP 14 (.int .i64 140) rfl ?_
      refine dnN ?_
      go_wp2_with fail
      go_meet
      exact ⟨_,z4,rfl,rfl,HNV.out,HZ4.out⟩
    · go_simp
      have HZA:Hid (Pag ((W10.alloc (.cells #[.int .i64 0,.int .i64 0,.int .i64 0,.int .i64 0,.string ⟨#[]⟩,.slice none 0 0] 24)).drew) W10.heap.size (.int .i64 0) (.int .i64 0) (.int .i64 0) (.int .i64 0) (.string ⟨#[]⟩) (.slice none 0 0)):=(Pag.new W10 _ _ _ _ _ _).more (Only.drew _ _)
      have HOA:Hid (Only (fun _=>False) W10 ((W10.alloc (.cells #[.int .i64 0,.int .i64 0,.int .i64 0,.int .i64 0,.string ⟨#[]⟩,.slice none 0 0] 24)).drew)):=o2 (onlyA _ _) (Only.drew _ _)
      refine hK.out _ _ (HOA.out) (fun hHeld=>?_)
      clear hK K
      try simp only [Act.put,lsA,lsB,lsC]
      refine rd1 8 rfl (fun K hK=>?_)
      go_simp
      refine (HRO.out _).mono ?_
      rintro x x1 ⟨ao3,cp3,rfl,hA3,ho3⟩
      obtain ⟨z4,hz4⟩:=exq ((⟨Pg.none,ao3,cp3⟩:Pz))
      rw [hz4] at hA3 ⊢
      have HZ4:Hid (∃ ao3 cp3,(⟨Pg.none,ao3,cp3⟩:Pz)=z4):=⟨ao3,cp3,hz4⟩
      have HX1:=hide (o2 hHeld ho3)
      have HA3:=hide hA3
      have HY1:=hide ho3
      have HZ7:=hide (HZA.out.more ho3)
      obtain ⟨q0,q1,q2,q3,q4,q5,g0,g1,g2,g3,g4,g5,ql⟩:=HZ7.out
      clear hz4 hA3 ho3
      unfold Pz.ar
      refine hK.out _ _ (HX1.out) (fun hHeld=>?_)
      clear hK K
      try simp only [Act.put,lsA,lsB,lsC]
      refine tkP 9 (.tuple #[.agg #[.int .i64 z4.p.lsn,.int .i64 z4.p.kind,.int .i64 z4.p.level,.int .i64 z4.p.right,.string z4.p.high,.slice z4.ao z4.p.items.length z4.cp],.int .i64 140]) rfl ?_
      refine tkP 10 (.agg #[.int .i64 z4.p.lsn,.int .i64 z4.p.kind,.int .i64 z4.p.level,.int .i64 z4.p.right,.string z4.p.high,.slice z4.ao z4.p.items.length z4.cp]) rfl ?_
      refine tkP 11 (.int .i64 140) rfl ?_
      refine rd1 13 rfl (fun K hK=>?_)
      go_simp
      have HNV:=hide (Pz3.before (Nat.le_refl _) HZA.out.lt HOA.out HY1.out HZ7.out HA3.out)
      refine hK.out _ _ (HNV.out.only) (fun hHeld=>?_)
      clear hK K
      try simp only [Act.put,lsA,lsB,lsC]
      refine tkP 14 (.int .i64 140) rfl ?_
      refine dnN ?_
      go_wp2_with fail
      go_meet
      exact ⟨_,z4,rfl,rfl,HNV.out,HZ4.out⟩
  case rest=>
    obtain ⟨b3,z4,rfl,rfl,HZ4⟩:=hcut
    have HR11:=hide (HR9.out.more HZ4.out.1.only)
    have HO11:=hide (o2 HWW9.out HZ4.out.1.only)
    go_wp2_with (first | (refine wpList_build_bnone rfl rfl ?_; go_frame) | (refine wpList_put_br rfl (.tmp 8) (.tmp 119) rfl (w.heap.size+1) rfl Br.none.cl rfl Br.none rfl HR11.out ?_; intro W9 HW9; go_frame))
    refine bodyPost_ret (results_br rfl rfl HW9.out.at_) rfl ?_
    exact ⟨rfl,HO11.out.trans HW9.out.only (fun i hi e=>by omega)⟩
end Go.Proofs.YtipkeeobmihogaaGreat
