/- Parts. -/
import Derived.Test.YtajjakljheafjaaGreatK40
set_option maxRecDepth 100000
namespace Go.Proofs.YtajjakljheafjaaGreat
open Go.RowKit
set_option maxHeartbeats 3200000 in
theorem bsplit_no1 (w:World) (a p:Int) (X:Nd) (J:Int) (B cp fb fo fc:Nat) (ao:Option Addr) (hP:Nm w X B ao) (hj:okC J=false) (hn:2≤X.ks.length) (hfr:w.cell? ⟨fb,fo,none⟩=some (.int .i64 J)) :
    Calls Tryz.prog 173 #[.agg #[.int .i64 a,.int .i64 3,.int .i64 X.lv,.int .i64 X.rt,.string (hiB X.hi),.slice ao X.items.length cp],.int .i64 p,.slice (some ⟨fb,fo,none⟩) 1 fc] w fun x w'=>x=.returned (.tuple #[.slice none 0 0,.int .i64 140])∧Only (fun _=>False) w w':=by
  have HP:=hide (Pag.new w (.int .i64 a) (.int .i64 3) (.int .i64 X.lv) (.int .i64 X.rt) (.string (hiB X.hi)) (.slice ao X.items.length cp))
  have HO:=hide (onlyA w (.cells #[.int .i64 a,.int .i64 3,.int .i64 X.lv,.int .i64 X.rt,.string (hiB X.hi),.slice ao X.items.length cp] 37))
  have HSP:Hid (∀ W,Only (fun _=>False) w W→Calls Tryz.prog 185 #[.agg #[.int .i64 0,.int .i64 3,.int .i64 X.lv,.int .i64 X.rt,.string (hiB X.hi),.slice ao X.items.length cp],.int .i64 J] W fun x w'=>x=.returned (.tuple #[.agg #[.int .i64 0,.int .i64 0,.int .i64 0,.int .i64 0,.string ⟨#[]⟩,.slice none 0 0],.agg #[.int .i64 0,.int .i64 0,.int .i64 0,.int .i64 0,.string ⟨#[]⟩,.slice none 0 0],.agg #[.string ⟨#[]⟩,.int .i64 0,.int .i64 0],.int .i64 140])∧Only (fun _=>False) W w'):=fun W ho=>msplit_no W 0 X J B cp ao (hP.more ho) hj hn
  have HFB:Hid (fb < w.heap.size):=World.block_lt_of_cell? w _ hfr
  clear hP hj hn
  obtain ⟨L,hL⟩:=exq ((X.lv:Int))
  obtain ⟨R,hR⟩:=exq ((X.rt:Int))
  obtain ⟨h,hh⟩:=exq (hiB X.hi)
  obtain ⟨n,hn⟩:=exq (X.items.length)
  rw [hL,hR,hh,hn] at HP HO HSP ⊢
  clear hL hR hh hn
  go_enter Tryz.func173,Tryz.ntmps173
  go_upto_region 1 with fail
  obtain ⟨W0,hW0⟩:=exq (w.alloc (.cells #[.int .i64 a,.int .i64 3,.int .i64 L,.int .i64 R,.string h,.slice ao n cp] 37))
  rw [hW0] at HP HO ⊢
  clear hW0
  obtain ⟨p0,p1,p2,p3,p4,p5,g0,_⟩:=HP.out
  go_upto_region 2 with fail
  have HP1:=hide (HP.out.s0 (.int .i64 0))
  have HO1:Hid (Only (fun _=>False) w (W0.setCell ⟨w.heap.size,0,none⟩ (.int .i64 0))):=HO.out.trans (Only.setCell (S:=fun k=>k=w.heap.size) W0 ⟨w.heap.size,0,none⟩ _ rfl) (fun i hi e=>by omega)
  obtain ⟨W1,hW1⟩:=exq (W0.setCell ⟨w.heap.size,0,none⟩ (.int .i64 0))
  rw [hW1] at HP1 HO1 ⊢
  clear hW1 p0 p1 p2 p3 p4 p5 g0 HP HO
  have hf1:=(HO1.out.cell (p:=⟨fb,fo,none⟩) HFB.out (fun h=>h)).trans hfr
  obtain ⟨p0,p1,p2,p3,p4,p5,_⟩:=HP1.out
  go_wp2_with fail
  refine (HSP.out _ HO1.out).mono ?_
  rintro x w1 ⟨rfl,ho⟩
  have HO2:=hide (o2 HO1.out ho)
  clear ho p0 p1 p2 p3 p4 p5 hf1
  have HO3:=hide (o2 HO2.out (o2 (o2 (onlyA w1 (.cells #[.int .i64 0,.int .i64 0,.int .i64 0,.int .i64 0,.string ⟨#[]⟩,.slice none 0 0] 37)) (onlyA _ (.cells #[.int .i64 0,.int .i64 0,.int .i64 0,.int .i64 0,.string ⟨#[]⟩,.slice none 0 0] 37))) (onlyA _ (.cells #[.string ⟨#[]⟩,.int .i64 0,.int .i64 0] 89))))
  go_wp2_with fail
  go_ret2
  exact ⟨rfl,HO3.out⟩
set_option maxHeartbeats 3200000 in
theorem bsplit_no2 (w:World) (a p:Int) (X:Nd) (J:Int) (B cp fb fo fc:Nat) (ao:Option Addr) (hP:Nm w X B ao) (hj:okC J=false) (hn:2≤X.ks.length) (hfr:w.cell? ⟨fb,fo+1,none⟩=some (.int .i64 J)) :
    Calls Tryz.prog 173 #[.agg #[.int .i64 a,.int .i64 3,.int .i64 X.lv,.int .i64 X.rt,.string (hiB X.hi),.slice ao X.items.length cp],.int .i64 p,.slice (some ⟨fb,fo,none⟩) 2 fc] w fun x w'=>x=.returned (.tuple #[.slice none 0 0,.int .i64 140])∧Only (fun _=>False) w w':=by
  have HP:=hide (Pag.new w (.int .i64 a) (.int .i64 3) (.int .i64 X.lv) (.int .i64 X.rt) (.string (hiB X.hi)) (.slice ao X.items.length cp))
  have HO:=hide (onlyA w (.cells #[.int .i64 a,.int .i64 3,.int .i64 X.lv,.int .i64 X.rt,.string (hiB X.hi),.slice ao X.items.length cp] 37))
  have HSP:Hid (∀ W,Only (fun _=>False) w W→Calls Tryz.prog 185 #[.agg #[.int .i64 0,.int .i64 3,.int .i64 X.lv,.int .i64 X.rt,.string (hiB X.hi),.slice ao X.items.length cp],.int .i64 J] W fun x w'=>x=.returned (.tuple #[.agg #[.int .i64 0,.int .i64 0,.int .i64 0,.int .i64 0,.string ⟨#[]⟩,.slice none 0 0],.agg #[.int .i64 0,.int .i64 0,.int .i64 0,.int .i64 0,.string ⟨#[]⟩,.slice none 0 0],.agg #[.string ⟨#[]⟩,.int .i64 0,.int .i64 0],.int .i64 140])∧Only (fun _=>False) W w'):=fun W ho=>msplit_no W 0 X J B cp ao (hP.more ho) hj hn
  have HFB:Hid (fb < w.heap.size):=World.block_lt_of_cell? w _ hfr
  clear hP hj hn
  obtain ⟨L,hL⟩:=exq ((X.lv:Int))
  obtain ⟨R,hR⟩:=exq ((X.rt:Int))
  obtain ⟨h,hh⟩:=exq (hiB X.hi)
  obtain ⟨n,hn⟩:=exq (X.items.length)
  rw [hL,hR,hh,hn] at HP HO HSP ⊢
  clear hL hR hh hn
  go_enter Tryz.func173,Tryz.ntmps173
  go_upto_region 1 with fail
  obtain ⟨W0,hW0⟩:=exq (w.alloc (.cells #[.int .i64 a,.int .i64 3,.int .i64 L,.int .i64 R,.string h,.slice ao n cp] 37))
  rw [hW0] at HP HO ⊢
  clear hW0
  obtain ⟨p0,p1,p2,p3,p4,p5,g0,_⟩:=HP.out
  go_upto_region 2 with fail
  have HP1:=hide (HP.out.s0 (.int .i64 0))
  have HO1:Hid (Only (fun _=>False) w (W0.setCell ⟨w.heap.size,0,none⟩ (.int .i64 0))):=HO.out.trans (Only.setCell (S:=fun k=>k=w.heap.size) W0 ⟨w.heap.size,0,none⟩ _ rfl) (fun i hi e=>by omega)
  obtain ⟨W1,hW1⟩:=exq (W0.setCell ⟨w.heap.size,0,none⟩ (.int .i64 0))
  rw [hW1] at HP1 HO1 ⊢
  clear hW1 p0 p1 p2 p3 p4 p5 g0 HP HO
  have hf1:=(HO1.out.cell (p:=⟨fb,fo+1,none⟩) HFB.out (fun h=>h)).trans hfr
  obtain ⟨p0,p1,p2,p3,p4,p5,_⟩:=HP1.out
  go_wp2_with fail
  refine (HSP.out _ HO1.out).mono ?_
  rintro x w1 ⟨rfl,ho⟩
  have HO2:=hide (o2 HO1.out ho)
  clear ho p0 p1 p2 p3 p4 p5 hf1
  have HO3:=hide (o2 HO2.out (o2 (o2 (onlyA w1 (.cells #[.int .i64 0,.int .i64 0,.int .i64 0,.int .i64 0,.string ⟨#[]⟩,.slice none 0 0] 37)) (onlyA _ (.cells #[.int .i64 0,.int .i64 0,.int .i64 0,.int .i64 0,.string ⟨#[]⟩,.slice none 0 0] 37))) (onlyA _ (.cells #[.string ⟨#[]⟩,.int .i64 0,.int .i64 0] 89))))
  go_wp2_with fail
  go_ret2
  exact ⟨rfl,HO3.out⟩
set_option maxHeartbeats 3200000 in
theorem bsplit_root (w:World) (a p:Int) (X:Nd) (I:Int) (j B cp fb fo fc:Nat) (ao:Option Addr) (hP:Nm w X B ao) (hF:Fit ao X.items.length cp) (hi:255 < (X.lv:Int)+1∨((X.lv:Int)+1≤255∧okC I=false)) (hj:okC j=true) (hn:2≤X.ks.length) (hfr0:w.cell? ⟨fb,fo,none⟩=some (.int .i64 I)) (hfr:w.cell? ⟨fb,fo+1,none⟩=some (.int .i64 j)) :
    Calls Tryz.prog 173 #[.agg #[.int .i64 a,.int .i64 3,.int .i64 X.lv,.int .i64 X.rt,.string (hiB X.hi),.slice ao X.items.length cp],.int .i64 p,.slice (some ⟨fb,fo,none⟩) 2 fc] w fun x w'=>x=.returned (.tuple #[.slice none 0 0,.int .i64 140])∧Only (fun _=>False) w w':=by
  have HP:=hide (Pag.new w (.int .i64 a) (.int .i64 3) (.int .i64 X.lv) (.int .i64 X.rt) (.string (hiB X.hi)) (.slice ao X.items.length cp))
  have HO:=hide (onlyA w (.cells #[.int .i64 a,.int .i64 3,.int .i64 X.lv,.int .i64 X.rt,.string (hiB X.hi),.slice ao X.items.length cp] 37))
  have HSP:Hid (∀ W,Only (fun _=>False) w W→Calls Tryz.prog 185 #[.agg #[.int .i64 0,.int .i64 3,.int .i64 X.lv,.int .i64 X.rt,.string (hiB X.hi),.slice ao X.items.length cp],.int .i64 j] W fun x w'=>SpR W w' x 0 X j):=fun W ho=>split_nd W 0 X j B cp ao (hP.more ho) hF hj hn
  have HFB:Hid (fb < w.heap.size):=World.block_lt_of_cell? w _ hfr
  have HRT:Hid (∀ W,Calls Tryz.prog 186 #[.int .i64 ((X.lv:Int)+1),.int .i64 I,X.bord.agg,.int .i64 j] W fun x w'=>∃ ao cp,x=.returned (.tuple #[.agg (Pz.ar ⟨Pg.none,ao,cp⟩),.int .i64 140])∧At w' (fun k=>W.heap.size≤k) ⟨Pg.none,ao,cp⟩∧Only (fun _=>False) W w'):=fun W=>by
    obtain ⟨lo,hok⟩:=hP.ok
    refine (mroot_no W ((X.lv:Int)+1) I j X.bord (by omega) (hok.bord hn).1 hi).mono ?_
    rintro x w' ⟨B9,ao9,cp9,rfl,s9,f9,o9,n9⟩
    exact ⟨ao9,cp9,rfl,⟨⟨B9,s9,fun h=>absurd h (by simp [Pg.none])⟩,f9⟩,o9⟩
  have hLb:-1≤(X.lv:Int)∧(X.lv:Int)≤255:=by have:=hP.lvl; omega
  clear hP hF hj hi hn
  obtain ⟨L,hL⟩:=exq ((X.lv:Int))
  obtain ⟨R,hR⟩:=exq ((X.rt:Int))
  obtain ⟨h,hh⟩:=exq (hiB X.hi)
  obtain ⟨n,hn⟩:=exq (X.items.length)
  obtain ⟨J,hJ⟩:=exq ((j:Int))
  rw [hL,hR,hh,hn] at HP HO HSP ⊢
  rw [hJ] at HSP hfr HRT
  rw [hL] at HRT hLb
  have HJ:=hide hJ
  clear hL hR hh hn hJ
  go_enter Tryz.func173,Tryz.ntmps173
  go_upto_region 1 with fail
  obtain ⟨W0,hW0⟩:=exq (w.alloc (.cells #[.int .i64 a,.int .i64 3,.int .i64 L,.int .i64 R,.string h,.slice ao n cp] 37))
  rw [hW0] at HP HO ⊢
  clear hW0
  obtain ⟨p0,p1,p2,p3,p4,p5,g0,_⟩:=HP.out
  go_upto_region 2 with fail
  have HP1:=hide (HP.out.s0 (.int .i64 0))
  have HO1:Hid (Only (fun _=>False) w (W0.setCell ⟨w.heap.size,0,none⟩ (.int .i64 0))):=HO.out.trans (Only.setCell (S:=fun k=>k=w.heap.size) W0 ⟨w.heap.size,0,none⟩ _ rfl) (fun i hi e=>by omega)
  obtain ⟨W1,hW1⟩:=exq (W0.setCell ⟨w.heap.size,0,none⟩ (.int .i64 0))
  rw [hW1] at HP1 HO1 ⊢
  clear hW1 p0 p1 p2 p3 p4 p5 g0 HP HO
  have hf1:=(HO1.out.cell (p:=⟨fb,fo+1,none⟩) HFB.out (fun h=>h)).trans hfr
  obtain ⟨p0,p1,p2,p3,p4,p5,_⟩:=HP1.out
  go_wp2_with fail
  refine (HSP.out _ HO1.out).mono ?_
  rintro x w1 ⟨ao1,cp1,ao2,cp2,rfl,hA1,hA2,ho⟩
  obtain ⟨z1,hz1⟩:=exq ((X.left j).z 0 ao1 cp1)
  obtain ⟨z2,hz2⟩:=exq (X.right.z 0 ao2 cp2)
  obtain ⟨e,he⟩:=exq (X.bord)
  rw [hz1] at hA1
  rw [hz2] at hA2
  rw [hz1,hz2,he]
  rw [he] at HRT
  have HZ:=hide (And.intro hz1 hz2)
  have HP2:=hide (HP1.out.more ho)
  have HO2:=hide (o2 HO1.out ho)
  have HA1:=hide (hA1.mono (Q:=fun k=>w.heap.size≤k) (fun k hk=>Nat.le_trans HO1.out.size hk))
  have HA2:=hide (hA2.mono (Q:=fun k=>w.heap.size≤k) (fun k hk=>Nat.le_trans HO1.out.size hk))
  clear hz1 hz2 he hA1 hA2 p0 p1 p2 p3 p4 p5 hf1 HP1 ho HSP
  unfold Pz.ar En.agg
  go_upto_region 4 with fail
  have HX:=hide (sp_newJ w1 (.int .i64 z1.p.lsn) (.int .i64 z1.p.kind) (.int .i64 z1.p.level) (.int .i64 z1.p.right) (.string z1.p.high) (.slice z1.ao z1.p.items.length z1.cp) (.int .i64 z2.p.lsn) (.int .i64 z2.p.kind) (.int .i64 z2.p.level) (.int .i64 z2.p.right) (.string z2.p.high) (.slice z2.ao z2.p.items.length z2.cp) e)
  obtain ⟨w2,hw2⟩:=exq (((w1.alloc (.cells #[.int .i64 z1.p.lsn,.int .i64 z1.p.kind,.int .i64 z1.p.level,.int .i64 z1.p.right,.string z1.p.high,.slice z1.ao z1.p.items.length z1.cp] 37)).alloc (.cells #[.int .i64 z2.p.lsn,.int .i64 z2.p.kind,.int .i64 z2.p.level,.int .i64 z2.p.right,.string z2.p.high,.slice z2.ao z2.p.items.length z2.cp] 37)).alloc (.cells #[.string e.key,.int .i64 e.page,.int .i64 e.slot] 89))
  rw [hw2] at HX ⊢
  clear hw2
  obtain ⟨q,hq⟩:=exq (w1.heap.size)
  rw [hq] at HX ⊢
  clear hq
  have HO3:=hide (o2 HO2.out HX.out.2.2.2)
  have HP3:=hide (HP2.out.more HX.out.2.2.2)
  have HA1':=hide (HA1.out.more HX.out.2.2.2)
  have HA2':=hide (HA2.out.more HX.out.2.2.2)
  clear HA1 HA2 HP2 HO2 HO1
  obtain ⟨p0,p1,p2,p3,p4,p5,_⟩:=HX.out.1
  obtain ⟨q0,q1,q2,q3,q4,q5,_⟩:=HX.out.2.1
  go_upto_region 7 with fail
  have HOW:Hid ((w2.alloc (.cells #[.int .i64 p,.int .i64 z1.p.lsn,.int .i64 z1.p.kind,.int .i64 z1.p.level,.int .i64 z1.p.right,.string z1.p.high,.slice z1.ao z1.p.items.length z1.cp,.int .i64 J,.int .i64 z2.p.lsn,.int .i64 z2.p.kind,.int .i64 z2.p.level,.int .i64 z2.p.right,.string z2.p.high,.slice z2.ao z2.p.items.length z2.cp] 253)).ownsRow w.heap.size 253 7 (.slice (some ⟨w2.heap.size,0,none⟩) 2 2) 2 (imc p z1++imc J z2)):=World.ownsRow_lit w2 _ 2 HO3.out.size (by unfold maxLen; omega) rfl
  have HAL:=hide (onlyA w2 (.cells #[.int .i64 p,.int .i64 z1.p.lsn,.int .i64 z1.p.kind,.int .i64 z1.p.level,.int .i64 z1.p.right,.string z1.p.high,.slice z1.ao z1.p.items.length z1.cp,.int .i64 J,.int .i64 z2.p.lsn,.int .i64 z2.p.kind,.int .i64 z2.p.level,.int .i64 z2.p.right,.string z2.p.high,.slice z2.ao z2.p.items.length z2.cp] 253))
  have HA1o:=hide ((HA1'.out.old).more HAL.out)
  have HA2o:=hide ((HA2'.out.old).more HAL.out)
  have HBB:Hid (w.heap.size < w2.heap.size∧q+1+1 < w2.heap.size):=by have h1:=HP3.out.lt; have h2:=HX.out.2.2.1.lt; exact ⟨by omega,by omega⟩
  obtain ⟨w3,hw3⟩:=exq ((w2.alloc (.cells #[.int .i64 p,.int .i64 z1.p.lsn,.int .i64 z1.p.kind,.int .i64 z1.p.level,.int .i64 z1.p.right,.string z1.p.high,.slice z1.ao z1.p.items.length z1.cp,.int .i64 J,.int .i64 z2.p.lsn,.int .i64 z2.p.kind,.int .i64 z2.p.level,.int .i64 z2.p.right,.string z2.p.high,.slice z2.ao z2.p.items.length z2.cp] 253)))
  rw [hw3] at HOW HAL HA1o HA2o ⊢
  clear hw3
  obtain ⟨b,hb⟩:=exq (w2.heap.size)
  rw [hb] at HOW HA1o HA2o HBB ⊢
  clear hb p0 p1 p2 p3 p4 p5 q0 q1 q2 q3 q4 q5
  have HO4:=hide (o2 HO3.out HAL.out)
  have HA1:=hide (HA1o.out.mono (Q:=fun k=>w.heap.size≤k∧k≠b) (fun k hk=>⟨hk.1,by have:=hk.2; omega⟩))
  have HA2:=hide (HA2o.out.mono (Q:=fun k=>w.heap.size≤k∧k≠b) (fun k hk=>⟨hk.1,by have:=hk.2; omega⟩))
  have HP4:=hide (HP3.out.more HAL.out)
  have HE4:=hide (HX.out.2.2.1.more HAL.out)
  clear HX HP3 HAL HA1' HA2'
  have hf0:=(HO4.out.cell (p:=⟨fb,fo,none⟩) HFB.out (fun h=>h)).trans hfr0
  have hc0:=(own_rg HOW.out).cell 0 _ rfl
  rw [Nat.zero_add] at hc0
  have hz0:=(own_rg HOW.out).fr 0 (by simp [imc])
  rw [Nat.zero_add] at hz0
  go_upto_region 10 with fail
  have HOW5:Hid ((w3.setCell ⟨b,0,none⟩ (.int .i64 I)).ownsRow w.heap.size 253 7 (.slice (some ⟨b,0,none⟩) 2 2) 2 (imc I z1++imc J z2)):=own_put (c1:=[]) (c2:=[.int .i64 p]) (c3:=z1.c++imc J z2) HOW.out [.int .i64 I] rfl
  have HSC:Hid (Only (fun k=>k=b) w3 (w3.setCell ⟨b,0,none⟩ (.int .i64 I))):=Only.setCell w3 ⟨b,0,none⟩ _ rfl
  obtain ⟨w5,hw5⟩:=exq (w3.setCell ⟨b,0,none⟩ (.int .i64 I))
  rw [hw5] at HOW5 HSC ⊢
  clear hw5 hc0 hz0 hf0
  have HNB:Hid (w.heap.size≤b):=by have:=HBB.out; unfold Hid; omega
  have HO5:=hide (HO4.out.trans HSC.out (fun k hk e=>by have:=HNB.out; omega))
  have HP5:=hide (HP4.out.kept HSC.out (by have:=HBB.out; omega))
  have HE5:=hide (HE4.out.kept HSC.out (by have:=HBB.out; omega))
  have HA1b:=hide (HA1.out.kept HSC.out (fun k hk=>hk.2))
  have HA2b:=hide (HA2.out.kept HSC.out (fun k hk=>hk.2))
  clear HA1 HA2 HA1o HA2o HP4 HE4 HO4 HSC HOW
  have hf5:=(HO5.out.cell (p:=⟨fb,fo,none⟩) HFB.out (fun h=>h)).trans hfr0
  have HFB5:Hid (fb < w5.heap.size):=Nat.lt_of_lt_of_le HFB.out HO5.out.size
  have hLw:IntKind.i64.wrap (L+1)=L+1:=by rw [IntKind.wrap_i64]; omega
  unfold En.agg at HRT
  go_cut [14,12] (fun x y wx=>∃ b3 z3,x=.pointer (some ⟨b3,0,none⟩)∧y=.int .i64 140∧Hid (Pz3 w5 wx b3 z3∧∃ ao3 cp3,(⟨Pg.none,ao3,cp3⟩:Pz)=z3))
  case first=>
    -- {r10
    refine wp_region_noPanic ?_
    refine wp_region_held_drew (S:=fun W=>Only (fun _=>False) w5 W) (by kernel_rfl) (Only.drew _ _) (fun hHeld=>?_)
    refine tkP 0 (.pointer (some ⟨w.heap.size,2,none⟩)) rfl ?_
    refine tkP 3 (.slice (some ⟨fb,fo,none⟩) 2 fc) rfl ?_
    refine tkQ 6 (.agg #[.string e.key,.int .i64 e.page,.int .i64 e.slot]) rfl (yieldsIf_load_ev (by rfl) _ rfl rfl (fun W hW=>HE5.out.more hW)) ?_
    refine tkP 7 (.int .i64 J) rfl ?_
    refine tkQ 1 (.int .i64 L) rfl (yieldsIf_load_cell (by rfl) 3 _ rfl _ rfl (fun W hW=>(HP5.out.more hW).c2) (fun W hc=>ld_int hc)) ?_
    refine tkP 4 (.pointer (some ⟨fb,fo,none⟩)) rfl ?_
    refine tkP 2 (.int .i64 (L+1)) rfl ?_
    refine tkQ 5 (.int .i64 I) rfl (yieldsIf_load_cell (by rfl) 3 _ rfl _ rfl (fun W hW=>(hW.cell (p:=⟨fb,fo,none⟩) HFB5.out (fun h=>h)).trans hf5) (fun W hc=>ld_int hc)) ?_
    refine wpAnyH_ready (rs:=[8,12]) (by kernel_rfl) (by simp) ?_
    refine arC rfl (fun K hK=>?_) (arC rfl (fun K hK=>?_) (AllReadyH.nil))
    · go_simp
      refine (HRT.out _).mono ?_
      rintro x x1 ⟨ao3,cp3,rfl,hA3,ho3⟩
      obtain ⟨z3,hz3⟩:=exq ((⟨Pg.none,ao3,cp3⟩:Pz))
      rw [hz3] at hA3 ⊢
      have HZ3:Hid (∃ ao3 cp3,(⟨Pg.none,ao3,cp3⟩:Pz)=z3):=⟨ao3,cp3,hz3⟩
      have HX1:=hide (o2 hHeld ho3)
      have HA3:=hide (hA3.mono (Q:=fun k=>w5.heap.size≤k) (fun k hk=>Nat.le_trans hHeld.size hk))
      clear hz3 hA3 ho3
      unfold Pz.ar
      refine hK.out _ _ (HX1.out) (fun hHeld=>?_)
      clear hK K
      try simp only [Act.put,lsA,lsB,lsC]
      refine tkP 9 (.tuple #[.agg #[.int .i64 z3.p.lsn,.int .i64 z3.p.kind,.int .i64 z3.p.level,.int .i64 z3.p.right,.string z3.p.high,.slice z3.ao z3.p.items.length z3.cp],.int .i64 140]) rfl ?_
      refine tkP 10 (.agg #[.int .i64 z3.p.lsn,.int .i64 z3.p.kind,.int .i64 z3.p.level,.int .i64 z3.p.right,.string z3.p.high,.slice z3.ao z3.p.items.length z3.cp]) rfl ?_
      refine tkP 11 (.int .i64 140) rfl ?_
      refine rd1 12 rfl (fun K hK=>?_)
      go_simp
      refine hK.out _ _ (o2 HX1.out (onlyA _ _)) (fun hHeld=>?_)
      clear hK K
      try simp only [Act.put,lsA,lsB,lsC]
      refine rd1 13 rfl (fun K hK=>?_)
      go_simp
      have HNV:=hide (Pz3.after HX1.out HA3.out)
      refine hK.out _ _ (HNV.out.only) (fun hHeld=>?_)
      clear hK K
      try simp only [Act.put,lsA,lsB,lsC]
      refine tkP 14 (.int .i64 140) rfl ?_
      refine dnN ?_
      go_wp2_with fail
      go_meet
      exact ⟨_,z3,rfl,rfl,HNV.out,HZ3.out⟩
    · go_simp
      have HZA:Hid (Pag ((w5.alloc (.cells #[.int .i64 0,.int .i64 0,.int .i64 0,.int .i64 0,.string ⟨#[]⟩,.slice none 0 0] 37)).drew) w5.heap.size (.int .i64 0) (.int .i64 0) (.int .i64 0) (.int .i64 0) (.string ⟨#[]⟩) (.slice none 0 0)):=(Pag.new w5 _ _ _ _ _ _).more (Only.drew _ _)
      have HOA:Hid (Only (fun _=>False) w5 ((w5.alloc (.cells #[.int .i64 0,.int .i64 0,.int .i64 0,.int .i64 0,.string ⟨#[]⟩,.slice none 0 0] 37)).drew)):=o2 (onlyA _ _) (Only.drew _ _)
      refine hK.out _ _ (HOA.out) (fun hHeld=>?_)
      clear hK K
      try simp only [Act.put,lsA,lsB,lsC]
      refine rd1 8 rfl (fun K hK=>?_)
      go_simp
      refine (HRT.out _).mono ?_
      rintro x x1 ⟨ao3,cp3,rfl,hA3,ho3⟩
      obtain ⟨z3,hz3⟩:=exq ((⟨Pg.none,ao3,cp3⟩:Pz))
      rw [hz3] at hA3 ⊢
      have HZ3:Hid (∃ ao3 cp3,(⟨Pg.none,ao3,cp3⟩:Pz)=z3):=⟨ao3,cp3,hz3⟩
      have HX1:=hide (o2 hHeld ho3)
      have HA3:=hide hA3
      have HY1:=hide ho3
      have HZ7:=hide (HZA.out.more ho3)
      obtain ⟨q0,q1,q2,q3,q4,q5,g0,g1,g2,g3,g4,g5,ql⟩:=HZ7.out
      clear hz3 hA3 ho3
      unfold Pz.ar
      refine hK.out _ _ (HX1.out) (fun hHeld=>?_)
      clear hK K
      try simp only [Act.put,lsA,lsB,lsC]
      refine tkP 9 (.tuple #[.agg #[.int .i64 z3.p.lsn,.int .i64 z3.p.kind,.int .i64 z3.p.level,.int .i64 z3.p.right,.string z3.p.high,.slice z3.ao z3.p.items.length z3.cp],.int .i64 140]) rfl ?_
      refine tkP 10 (.agg #[.int .i64 z3.p.lsn,.int .i64 z3.p.kind,.int .i64 z3.p.level,.int .i64 z3.p.right,.string z3.p.high,.slice z3.ao z3.p.items.length z3.cp]) rfl ?_
      refine tkP 11 (.int .i64 140) rfl ?_
      refine rd1 13 rfl (fun K hK=>?_)
      go_simp
      have HNV:=hide (Pz3.before (Nat.le_refl _) HZA.out.lt HOA.out HY1.out HZ7.out HA3.out)
      refine hK.out _ _ (HNV.out.only) (fun hHeld=>?_)
      clear hK K
      try simp only [Act.put,lsA,lsB,lsC]
      refine tkP 14 (.int .i64 140) rfl ?_
      refine dnN ?_
      go_wp2_with fail
      go_meet
      exact ⟨_,z3,rfl,rfl,HNV.out,HZ3.out⟩
    -- r10}
  case rest=>
    obtain ⟨b3,z3,rfl,rfl,HZ3⟩:=hcut
    have HO6:=hide (o2 HO5.out HZ3.out.1.only)
    go_wp2_with fail
    go_ret2
    exact ⟨rfl,HO6.out⟩
set_option maxHeartbeats 3200000 in
theorem enter_sp (w:World) (a page:Int) (X:Nd) (s:ByteArray) (B cp:Nat) (ao:Option Addr) (zs:List Int) (fb fc:Nat) (fa:Option Addr) (hG:Gd X) (hS:Strs w B ao X.items) (hF:Fit ao X.items.length cp) (ha:0≤a∧a < 9223372036854775808) (hz:Ns w fb fa zs) (hz1:zs.length≤fc) (hz2:fc≤maxLen) (N:Int) (hN:X.need page (brd X.lv s)=(N,0)) (hN0:¬ N=0) (hA:(zs.length:Int)=N) (hfr:frs zs=true)
    (hB:∀ W,Only (fun _=>False) w W→Calls Tryz.prog 173 #[.agg #[.int .i64 a,.int .i64 3,.int .i64 X.lv,.int .i64 X.rt,.string (hiB X.hi),.slice ao X.items.length cp],.int .i64 page,.slice fa zs.length fc] W fun x w'=>x=.returned (.tuple #[.slice none 0 0,.int .i64 140])∧Only (fun _=>False) W w') :
    Calls Tryz.prog 151 #[.agg #[.int .i64 a,.int .i64 3,.int .i64 X.lv,.int .i64 X.rt,.string (hiB X.hi),.slice ao X.items.length cp],.int .i64 page,.string s,.slice fa zs.length fc] w fun x w'=>x=.returned (.tuple #[.agg Br.none.cells,.int .i64 140])∧Only (fun _=>False) w w':=by
  have HX:=hide (en_new w (.int .i64 a) (.int .i64 3) (.int .i64 X.lv) (.int .i64 X.rt) (.string (hiB X.hi)) (.slice ao X.items.length cp))
  have HND:Hid (∀ W,Only (fun _=>False) w W→Calls Tryz.prog 29 #[.agg #[.int .i64 a,.int .i64 3,.int .i64 X.lv,.int .i64 X.rt,.string (hiB X.hi),.slice ao X.items.length cp],.int .i64 page,.string s] W fun x w'=>x=.returned (.tuple #[.int .i64 (X.need page (brd X.lv s)).1,.int .i64 (X.need page (brd X.lv s)).2])∧Only (fun _=>False) W w'):=fun W ho=>need_nd W a page X s B cp ao (hG.nm (hS.more ho)) hF ha
  rw [hN] at HND
  simp only [] at HND
  have HFR:Hid (∀ W,Only (fun _=>False) w W→Calls Tryz.prog 172 #[.slice fa zs.length fc] W fun e w'=>e=.returned (.bool (frs zs))∧w'=W):=fun W ho=>areFresh_any W fb fc fa zs ⟨fun h0=>by obtain ⟨o,q,hc⟩:=hz.at_ h0; exact ⟨o,q,fun j hj=>(ho.cell (p:=⟨fb,o+j,none⟩) (World.block_lt_of_cell? w _ (hc j hj)) (fun h=>h)).trans (hc j hj)⟩,hz.len⟩ hz1 hz2
  rw [hfr] at HFR
  have HSP:=hide hB
  clear hG hS hF ha hN hz hz1 hz2 hfr hB
  obtain ⟨L,hL⟩:=exq ((X.lv:Int))
  obtain ⟨R,hR⟩:=exq ((X.rt:Int))
  obtain ⟨h,hh⟩:=exq (hiB X.hi)
  obtain ⟨n,hn⟩:=exq (X.items.length)
  rw [hL,hR,hh,hn] at HX HND HSP ⊢
  clear hL hR hh hn
  obtain ⟨m,hm⟩:=exq (zs.length)
  rw [hm] at HFR HSP hA ⊢
  clear hm
  subst hA
  have hq1:((m:Int) == 0)=false:=by simpa using hN0
  have hq2:¬ (m:Int)=0:=hN0
  clear hN0
  go_enter Tryz.func151,Tryz.ntmps151
  go_upto_region 1 with fail
  obtain ⟨W0,hW0⟩:=exq ((w.alloc (.cells #[.int .i64 a,.int .i64 3,.int .i64 L,.int .i64 R,.string h,.slice ao n cp] 37)).alloc (.cells Br.none.cells 50))
  rw [hW0] at HX ⊢
  clear hW0
  obtain ⟨p0,p1,p2,p3,p4,p5,_⟩:=HX.out.1
  go_wp2_with fail
  refine (HND.out _ HX.out.2.2).mono ?_
  rintro x w1 ⟨rfl,ho⟩
  have HP1:=hide (HX.out.1.more ho)
  have HR1:=hide (HX.out.2.1.more ho)
  have HO1:=hide (o2 HX.out.2.2 ho)
  clear ho p0 p1 p2 p3 p4 p5 HX HND
  go_wp2_with fail
  refine (HFR.out _ HO1.out).mono ?_
  rintro x w2 ⟨rfl,h4⟩
  obtain rfl:=h4.symm
  clear h4
  obtain ⟨p0,p1,p2,p3,p4,p5,_⟩:=HP1.out
  go_wp2_with fail
  refine (HSP.out _ HO1.out).mono ?_
  rintro x w3 ⟨rfl,ho2⟩
  have HR3:=hide (HR1.out.more ho2)
  have HO3:=hide (o2 HO1.out ho2)
  clear ho2 p0 p1 p2 p3 p4 p5
  go_wp2_with (first | (refine wpList_build_bnone rfl rfl ?_; go_frame) | (refine wpList_put_br rfl (.tmp 8) (.tmp 49) rfl (w.heap.size+1) rfl Br.none.cl rfl Br.none rfl HR3.out ?_; intro W9 HW9; go_frame))
  refine bodyPost_ret (results_br rfl rfl HW9.out.at_) rfl ?_
  exact ⟨rfl,HO3.out.trans HW9.out.only (fun i hi e=>by omega)⟩
end Go.Proofs.YtajjakljheafjaaGreat
