/- Parts. -/
import Derived.Test.YtipkeeobmihogaaGreatK25
set_option maxRecDepth 100000
namespace Go.Proofs.YtipkeeobmihogaaGreat
open Go.RowKit
theorem Pag.s0 {w:World} {b:Nat} {v0 v1 v2 v3 v4 v5:Value} (h:Pag w b v0 v1 v2 v3 v4 v5) (x:Value):Pag (w.setCell ⟨b,0,none⟩ x) b x v1 v2 v3 v4 v5 :=
  ⟨World.cell?_setCell_same _ _ _ h.c0,othN _ _ _ _ _ _ (by omega) h.c1,othN _ _ _ _ _ _ (by omega) h.c2,othN _ _ _ _ _ _ (by omega) h.c3,othN _ _ _ _ _ _ (by omega) h.c4,othN _ _ _ _ _ _ (by omega) h.c5,by simpa using h.f0,by simpa using h.f1,by simpa using h.f2,by simpa using h.f3,by simpa using h.f4,by simpa using h.f5,by simpa using h.lt⟩
theorem sp_newJ (w:World) (v0 v1 v2 v3 v4 v5 u0 u1 u2 u3 u4 u5:Value) (e:En):Pag (((w.alloc (.cells #[v0,v1,v2,v3,v4,v5] 24)).alloc (.cells #[u0,u1,u2,u3,u4,u5] 24)).alloc (.cells #[.string e.key,.int .i64 e.page,.int .i64 e.slot] 41)) w.heap.size v0 v1 v2 v3 v4 v5∧Pag (((w.alloc (.cells #[v0,v1,v2,v3,v4,v5] 24)).alloc (.cells #[u0,u1,u2,u3,u4,u5] 24)).alloc (.cells #[.string e.key,.int .i64 e.page,.int .i64 e.slot] 41)) (w.heap.size+1) u0 u1 u2 u3 u4 u5∧Ev (((w.alloc (.cells #[v0,v1,v2,v3,v4,v5] 24)).alloc (.cells #[u0,u1,u2,u3,u4,u5] 24)).alloc (.cells #[.string e.key,.int .i64 e.page,.int .i64 e.slot] 41)) (w.heap.size+1+1) e∧Only (fun _=>False) w (((w.alloc (.cells #[v0,v1,v2,v3,v4,v5] 24)).alloc (.cells #[u0,u1,u2,u3,u4,u5] 24)).alloc (.cells #[.string e.key,.int .i64 e.page,.int .i64 e.slot] 41)):=by
  have e1:=Pag.new (w.alloc (.cells #[v0,v1,v2,v3,v4,v5] 24)) u0 u1 u2 u3 u4 u5
  rw [World.size_alloc] at e1
  have e2:=Ev.new ((w.alloc (.cells #[v0,v1,v2,v3,v4,v5] 24)).alloc (.cells #[u0,u1,u2,u3,u4,u5] 24)) e
  rw [World.size_alloc,World.size_alloc] at e2
  exact ⟨(Pag.new w _ _ _ _ _ _).more (o2 (onlyA _ _) (onlyA _ _)),e1.more (onlyA _ _),e2,o2 (o2 (onlyA _ _) (onlyA _ _)) (onlyA _ _)⟩
def Im2 (w w':World) (x:Ending) (p:Int) (X:Nd) (j:Nat):Prop :=
  ∃ b ao1 cp1 ao2 cp2,x=.returned (.tuple #[.slice (some ⟨b,0,none⟩) 2 2,.int .i64 0])∧w'.ownsRow w.heap.size 65 7 (.slice (some ⟨b,0,none⟩) 2 2) 2 (imc p ((X.left j).z 0 ao1 cp1)++imc j (X.right.z 0 ao2 cp2))∧At w' (fun k=>w.heap.size≤k∧k≠b) ((X.left j).z 0 ao1 cp1)∧At w' (fun k=>w.heap.size≤k∧k≠b) (X.right.z 0 ao2 cp2)∧Only (fun _=>False) w w'
set_option maxHeartbeats 3200000 in
theorem bsplit_one (w:World) (a p:Int) (X:Nd) (j B cp fb fo fc:Nat) (ao:Option Addr) (hP:Nm w X B ao) (hF:Fit ao X.items.length cp) (hj:okC j=true) (hn:2≤X.ks.length) (hfr:w.cell? ⟨fb,fo,none⟩=some (.int .i64 j)) :
    Calls Tryz.prog 18 #[.agg #[.int .i64 a,.int .i64 3,.int .i64 X.lv,.int .i64 X.rt,.string (hiB X.hi),.slice ao X.items.length cp],.int .i64 p,.slice (some ⟨fb,fo,none⟩) 1 fc] w fun x w'=>Im2 w w' x p X j:=by
  have HP:=hide (Pag.new w (.int .i64 a) (.int .i64 3) (.int .i64 X.lv) (.int .i64 X.rt) (.string (hiB X.hi)) (.slice ao X.items.length cp))
  have HO:=hide (onlyA w (.cells #[.int .i64 a,.int .i64 3,.int .i64 X.lv,.int .i64 X.rt,.string (hiB X.hi),.slice ao X.items.length cp] 24))
  have HSP:Hid (∀ W,Only (fun _=>False) w W→Calls Tryz.prog 49 #[.agg #[.int .i64 0,.int .i64 3,.int .i64 X.lv,.int .i64 X.rt,.string (hiB X.hi),.slice ao X.items.length cp],.int .i64 j] W fun x w'=>SpR W w' x 0 X j):=fun W ho=>split_nd W 0 X j B cp ao (hP.more ho) hF hj hn
  have HFB:Hid (fb < w.heap.size):=World.block_lt_of_cell? w _ hfr
  clear hP hF hj hn
  obtain ⟨L,hL⟩:=exq ((X.lv:Int))
  obtain ⟨R,hR⟩:=exq ((X.rt:Int))
  obtain ⟨h,hh⟩:=exq (hiB X.hi)
  obtain ⟨n,hn⟩:=exq (X.items.length)
  obtain ⟨J,hJ⟩:=exq ((j:Int))
  rw [hL,hR,hh,hn] at HP HO HSP ⊢
  rw [hJ] at HSP hfr
  have HJ:=hide hJ
  clear hL hR hh hn hJ
  go_enter Tryz.func18,Tryz.ntmps18
  go_upto_region 1 with fail
  obtain ⟨W0,hW0⟩:=exq (w.alloc (.cells #[.int .i64 a,.int .i64 3,.int .i64 L,.int .i64 R,.string h,.slice ao n cp] 24))
  rw [hW0] at HP HO ⊢
  clear hW0
  obtain ⟨p0,p1,p2,p3,p4,p5,g0,_⟩:=HP.out
  go_upto_region 2 with fail
  have HP1:=hide (HP.out.s0 (.int .i64 0))
  have HO1:Hid (Only (fun _=>False) w (W0.setCell ⟨w.heap.size,0,none⟩ (.int .i64 0))):=HO.out.trans (Only.setCell (S:=fun k=>k=w.heap.size) W0 ⟨w.heap.size,0,none⟩ _ rfl) (fun i hi e=>by omega)
  obtain ⟨W1,hW1⟩:=exq (W0.setCell ⟨w.heap.size,0,none⟩ (.int .i64 0))
  rw [hW1] at HP1 HO1 ⊢
  clear hW1 p0 p1 p2 p3 p4 p5 g0 HP HO
  have hf1:=(HO1.out.cell (p:=⟨fb,fo,none⟩) HFB.out (fun h=>h)).trans hfr
  obtain ⟨p0,p1,p2,p3,p4,p5,_⟩:=HP1.out
  go_wp2_with fail
  refine (HSP.out _ HO1.out).mono ?_
  rintro x w1 ⟨ao1,cp1,ao2,cp2,rfl,hA1,hA2,ho⟩
  obtain ⟨z1,hz1⟩:=exq ((X.left j).z 0 ao1 cp1)
  obtain ⟨z2,hz2⟩:=exq (X.right.z 0 ao2 cp2)
  obtain ⟨e,he⟩:=exq (X.bord)
  rw [hz1] at hA1
  rw [hz2] at hA2
  rw [hz1,hz2,he]
  have HZ:=hide (And.intro hz1 hz2)
  have HP2:=hide (HP1.out.more ho)
  have HO2:=hide (o2 HO1.out ho)
  have HA1:=hide (hA1.mono (Q:=fun k=>w.heap.size≤k) (fun k hk=>Nat.le_trans HO1.out.size hk))
  have HA2:=hide (hA2.mono (Q:=fun k=>w.heap.size≤k) (fun k hk=>Nat.le_trans HO1.out.size hk))
  clear hz1 hz2 he hA1 hA2 p0 p1 p2 p3 p4 p5 hf1 HP1 ho HSP
  unfold Pz.ar En.agg
  go_upto_region 4 with fail
  have HX:=hide (sp_newJ w1 (.int .i64 z1.p.lsn) (.int .i64 z1.p.kind) (.int .i64 z1.p.level) (.int .i64 z1.p.right) (.string z1.p.high) (.slice z1.ao z1.p.items.length z1.cp) (.int .i64 z2.p.lsn) (.int .i64 z2.p.kind) (.int .i64 z2.p.level) (.int .i64 z2.p.right) (.string z2.p.high) (.slice z2.ao z2.p.items.length z2.cp) e)
  obtain ⟨w2,hw2⟩:=exq (((w1.alloc (.cells #[.int .i64 z1.p.lsn,.int .i64 z1.p.kind,.int .i64 z1.p.level,.int .i64 z1.p.right,.string z1.p.high,.slice z1.ao z1.p.items.length z1.cp] 24)).alloc (.cells #[.int .i64 z2.p.lsn,.int .i64 z2.p.kind,.int .i64 z2.p.level,.int .i64 z2.p.right,.string z2.p.high,.slice z2.ao z2.p.items.length z2.cp] 24)).alloc (.cells #[.string e.key,.int .i64 e.page,.int .i64 e.slot] 41))
  rw [hw2] at HX ⊢
  clear hw2
  obtain ⟨q,hq⟩:=exq (w1.heap.size)
  rw [hq] at HX ⊢
  clear hq
  have HO3:=hide (o2 HO2.out HX.out.2.2.2)
  have HA1':=hide (HA1.out.more HX.out.2.2.2)
  have HA2':=hide (HA2.out.more HX.out.2.2.2)
  clear HA1 HA2 HP2 HO2 HO1
  obtain ⟨p0,p1,p2,p3,p4,p5,_⟩:=HX.out.1
  obtain ⟨q0,q1,q2,q3,q4,q5,_⟩:=HX.out.2.1
  go_upto_region 7 with fail
  have HOW:Hid ((w2.alloc (.cells #[.int .i64 p,.int .i64 z1.p.lsn,.int .i64 z1.p.kind,.int .i64 z1.p.level,.int .i64 z1.p.right,.string z1.p.high,.slice z1.ao z1.p.items.length z1.cp,.int .i64 J,.int .i64 z2.p.lsn,.int .i64 z2.p.kind,.int .i64 z2.p.level,.int .i64 z2.p.right,.string z2.p.high,.slice z2.ao z2.p.items.length z2.cp] 65)).ownsRow w.heap.size 65 7 (.slice (some ⟨w2.heap.size,0,none⟩) 2 2) 2 (imc p z1++imc J z2)):=World.ownsRow_lit w2 _ 2 HO3.out.size (by unfold maxLen; omega) rfl
  have HAL:=hide (onlyA w2 (.cells #[.int .i64 p,.int .i64 z1.p.lsn,.int .i64 z1.p.kind,.int .i64 z1.p.level,.int .i64 z1.p.right,.string z1.p.high,.slice z1.ao z1.p.items.length z1.cp,.int .i64 J,.int .i64 z2.p.lsn,.int .i64 z2.p.kind,.int .i64 z2.p.level,.int .i64 z2.p.right,.string z2.p.high,.slice z2.ao z2.p.items.length z2.cp] 65))
  have HA1o:=hide ((HA1'.out.old).more HAL.out)
  have HA2o:=hide ((HA2'.out.old).more HAL.out)
  obtain ⟨w3,hw3⟩:=exq ((w2.alloc (.cells #[.int .i64 p,.int .i64 z1.p.lsn,.int .i64 z1.p.kind,.int .i64 z1.p.level,.int .i64 z1.p.right,.string z1.p.high,.slice z1.ao z1.p.items.length z1.cp,.int .i64 J,.int .i64 z2.p.lsn,.int .i64 z2.p.kind,.int .i64 z2.p.level,.int .i64 z2.p.right,.string z2.p.high,.slice z2.ao z2.p.items.length z2.cp] 65)))
  rw [hw3] at HOW HAL HA1o HA2o ⊢
  clear hw3
  obtain ⟨b,hb⟩:=exq (w2.heap.size)
  rw [hb] at HOW HA1o HA2o ⊢
  clear hb p0 p1 p2 p3 p4 p5 q0 q1 q2 q3 q4 q5
  have HO4:=hide (o2 HO3.out HAL.out)
  have HA1:=hide (HA1o.out.mono (Q:=fun k=>w.heap.size≤k∧k≠b) (fun k hk=>⟨hk.1,by have:=hk.2; omega⟩))
  have HA2:=hide (HA2o.out.mono (Q:=fun k=>w.heap.size≤k∧k≠b) (fun k hk=>⟨hk.1,by have:=hk.2; omega⟩))
  go_wp2_with fail
  go_ret2
  obtain ⟨rfl,rfl⟩:=HZ.out
  obtain rfl:=HJ.out
  exact ⟨b,ao1,cp1,ao2,cp2,rfl,HOW.out,HA1.out,HA2.out,HO4.out⟩
structure Pz3 (w5 W:World) (b:Nat) (z:Pz):Prop where
  pag:Pag W b (.int .i64 z.p.lsn) (.int .i64 z.p.kind) (.int .i64 z.p.level) (.int .i64 z.p.right) (.string z.p.high) (.slice z.ao z.p.items.length z.cp)
  at_:At W (fun k=>w5.heap.size≤k) z
  only:Only (fun _=>False) w5 W
theorem Pz3.after {w5 x1:World} {z:Pz} (ho:Only (fun _=>False) w5 x1) (hA:At x1 (fun k=>w5.heap.size≤k) z):Pz3 w5 (x1.alloc (.cells #[.int .i64 z.p.lsn,.int .i64 z.p.kind,.int .i64 z.p.level,.int .i64 z.p.right,.string z.p.high,.slice z.ao z.p.items.length z.cp] 24)) x1.heap.size z :=
  ⟨Pag.new x1 _ _ _ _ _ _,hA.more (onlyA _ _),o2 ho (onlyA _ _)⟩
theorem Pz3.before {w5 W1 x1:World} {b:Nat} {z:Pz} {v0 v1 v2 v3 v4 v5:Value} (hb:w5.heap.size≤b) (hl:b < W1.heap.size) (ho:Only (fun _=>False) w5 W1) (ho1:Only (fun _=>False) W1 x1) (hP:Pag x1 b v0 v1 v2 v3 v4 v5) (hA:At x1 (fun k=>W1.heap.size≤k) z):Pz3 w5 ((((((x1.setCell ⟨b,0,none⟩ (.int .i64 z.p.lsn)).setCell ⟨b,1,none⟩ (.int .i64 z.p.kind)).setCell ⟨b,2,none⟩ (.int .i64 z.p.level)).setCell ⟨b,3,none⟩ (.int .i64 z.p.right)).setCell ⟨b,4,none⟩ (.string z.p.high)).setCell ⟨b,5,none⟩ (.slice z.ao z.p.items.length z.cp)) b z :=
  ⟨Pag.six hP _ _ _ _ _ _,(hA.kept (Only.six x1 b _ _ _ _ _ _) (fun _ hk e=>by omega)).mono (fun _ hk=>by have:=ho.size; omega),(o2 ho ho1).trans (Only.six x1 b _ _ _ _ _ _) (fun k hk e=>by omega)⟩
def Im3 (w w':World) (x:Ending) (X:Nd) (i j:Nat):Prop :=
  ∃ b c ao1 cp1 ao2 cp2 ao3 cp3,x=.returned (.tuple #[.slice (some ⟨b,0,none⟩) 3 c,.int .i64 0])∧w'.ownsRow w.heap.size 65 7 (.slice (some ⟨b,0,none⟩) 3 c) 3 (imc i ((X.left j).z 0 ao1 cp1)++imc j (X.right.z 0 ao2 cp2)++imc 1 ((X.over i j).z 0 ao3 cp3))∧At w' (fun k=>w.heap.size≤k∧k≠b) ((X.left j).z 0 ao1 cp1)∧At w' (fun k=>w.heap.size≤k∧k≠b) (X.right.z 0 ao2 cp2)∧At w' (fun k=>w.heap.size≤k∧k≠b) ((X.over i j).z 0 ao3 cp3)∧Only (fun _=>False) w w'
set_option maxHeartbeats 3200000 in
theorem bsplit_two (w:World) (a p:Int) (X:Nd) (i j B cp fb fo fc:Nat) (ao:Option Addr) (hP:Nm w X B ao) (hF:Fit ao X.items.length cp) (hi:okC i=true) (hj:okC j=true) (hn:2≤X.ks.length) (hv:X.lv+1≤255) (hfr0:w.cell? ⟨fb,fo,none⟩=some (.int .i64 i)) (hfr:w.cell? ⟨fb,fo+1,none⟩=some (.int .i64 j)) :
    Calls Tryz.prog 18 #[.agg #[.int .i64 a,.int .i64 3,.int .i64 X.lv,.int .i64 X.rt,.string (hiB X.hi),.slice ao X.items.length cp],.int .i64 p,.slice (some ⟨fb,fo,none⟩) 2 fc] w fun x w'=>Im3 w w' x X i j:=by
  have HP:=hide (Pag.new w (.int .i64 a) (.int .i64 3) (.int .i64 X.lv) (.int .i64 X.rt) (.string (hiB X.hi)) (.slice ao X.items.length cp))
  have HO:=hide (onlyA w (.cells #[.int .i64 a,.int .i64 3,.int .i64 X.lv,.int .i64 X.rt,.string (hiB X.hi),.slice ao X.items.length cp] 24))
  have HSP:Hid (∀ W,Only (fun _=>False) w W→Calls Tryz.prog 49 #[.agg #[.int .i64 0,.int .i64 3,.int .i64 X.lv,.int .i64 X.rt,.string (hiB X.hi),.slice ao X.items.length cp],.int .i64 j] W fun x w'=>SpR W w' x 0 X j):=fun W ho=>split_nd W 0 X j B cp ao (hP.more ho) hF hj hn
  have HFB:Hid (fb < w.heap.size):=World.block_lt_of_cell? w _ hfr
  have HRT:Hid (∀ W,Calls Tryz.prog 50 #[.int .i64 ((X.lv:Int)+1),.int .i64 i,X.bord.agg,.int .i64 j] W fun x w'=>∃ ao cp,x=.returned (.tuple #[.agg ((X.over i j).z 0 ao cp).ar,.int .i64 0])∧At w' (fun k=>W.heap.size≤k) ((X.over i j).z 0 ao cp)∧Only (fun _=>False) W w'):=fun W=>root_nd W X i j hv hi hj (by obtain ⟨lo,ho⟩:=hP.ok; exact (ho.bord hn).1)
  have hLb:-1≤(X.lv:Int)∧(X.lv:Int)≤254:=by omega
  clear hP hF hj hi hv hn
  obtain ⟨L,hL⟩:=exq ((X.lv:Int))
  obtain ⟨R,hR⟩:=exq ((X.rt:Int))
  obtain ⟨h,hh⟩:=exq (hiB X.hi)
  obtain ⟨n,hn⟩:=exq (X.items.length)
  obtain ⟨J,hJ⟩:=exq ((j:Int))
  rw [hL,hR,hh,hn] at HP HO HSP ⊢
  obtain ⟨I,hI⟩:=exq ((i:Int))
  rw [hJ] at HSP hfr HRT
  rw [hI] at hfr0 HRT
  rw [hL] at HRT hLb
  have HI:=hide hI
  have HJ:=hide hJ
  clear hL hR hh hn hJ hI
  go_enter Tryz.func18,Tryz.ntmps18
  go_upto_region 1 with fail
  obtain ⟨W0,hW0⟩:=exq (w.alloc (.cells #[.int .i64 a,.int .i64 3,.int .i64 L,.int .i64 R,.string h,.slice ao n cp] 24))
  rw [hW0] at HP HO ⊢
  clear hW0
  obtain ⟨p0,p1,p2,p3,p4,p5,g0,_⟩:=HP.out
  go_upto_region 2 with fail
  have HP1:=hide (HP.out.s0 (.int .i64 0))
  have HO1:Hid (Only (fun _=>False) w (W0.setCell ⟨w.heap.size,0,none⟩ (.int .i64 0))):=HO.out.trans (Only.setCell (S:=fun k=>k=w.heap.size) W0 ⟨w.heap.size,0,none⟩ _ rfl) (fun i hi e=>by omega)
  obtain ⟨W1,hW1⟩:=exq (W0.setCell ⟨w.heap.size,0,none⟩ (.int .i64 0))
  rw [hW1] at HP1 HO1 ⊢
  clear hW1 p0 p1 p2 p3 p4 p5 g0 HP HO
  have hf1:=(HO1.out.cell (p:=⟨fb,fo+1,none⟩) HFB.out (fun h=>h)).trans hfr
  obtain ⟨p0,p1,p2,p3,p4,p5,_⟩:=HP1.out
  go_wp2_with fail
  refine (HSP.out _ HO1.out).mono ?_
  rintro x w1 ⟨ao1,cp1,ao2,cp2,rfl,hA1,hA2,ho⟩
  obtain ⟨z1,hz1⟩:=exq ((X.left j).z 0 ao1 cp1)
  obtain ⟨z2,hz2⟩:=exq (X.right.z 0 ao2 cp2)
  obtain ⟨e,he⟩:=exq (X.bord)
  rw [hz1] at hA1
  rw [hz2] at hA2
  rw [hz1,hz2,he]
  rw [he] at HRT
  have HZ:=hide (And.intro hz1 hz2)
  have HP2:=hide (HP1.out.more ho)
  have HO2:=hide (o2 HO1.out ho)
  have HA1:=hide (hA1.mono (Q:=fun k=>w.heap.size≤k) (fun k hk=>Nat.le_trans HO1.out.size hk))
  have HA2:=hide (hA2.mono (Q:=fun k=>w.heap.size≤k) (fun k hk=>Nat.le_trans HO1.out.size hk))
  clear hz1 hz2 he hA1 hA2 p0 p1 p2 p3 p4 p5 hf1 HP1 ho HSP
  unfold Pz.ar En.agg
  go_upto_region 4 with fail
  have HX:=hide (sp_newJ w1 (.int .i64 z1.p.lsn) (.int .i64 z1.p.kind) (.int .i64 z1.p.level) (.int .i64 z1.p.right) (.string z1.p.high) (.slice z1.ao z1.p.items.length z1.cp) (.int .i64 z2.p.lsn) (.int .i64 z2.p.kind) (.int .i64 z2.p.level) (.int .i64 z2.p.right) (.string z2.p.high) (.slice z2.ao z2.p.items.length z2.cp) e)
  obtain ⟨w2,hw2⟩:=exq (((w1.alloc (.cells #[.int .i64 z1.p.lsn,.int .i64 z1.p.kind,.int .i64 z1.p.level,.int .i64 z1.p.right,.string z1.p.high,.slice z1.ao z1.p.items.length z1.cp] 24)).alloc (.cells #[.int .i64 z2.p.lsn,.int .i64 z2.p.kind,.int .i64 z2.p.level,.int .i64 z2.p.right,.string z2.p.high,.slice z2.ao z2.p.items.length z2.cp] 24)).alloc (.cells #[.string e.key,.int .i64 e.page,.int .i64 e.slot] 41))
  rw [hw2] at HX ⊢
  clear hw2
  obtain ⟨q,hq⟩:=exq (w1.heap.size)
  rw [hq] at HX ⊢
  clear hq
  have HO3:=hide (o2 HO2.out HX.out.2.2.2)
  have HP3:=hide (HP2.out.more HX.out.2.2.2)
  have HA1':=hide (HA1.out.more HX.out.2.2.2)
  have HA2':=hide (HA2.out.more HX.out.2.2.2)
  clear HA1 HA2 HP2 HO2 HO1
  obtain ⟨p0,p1,p2,p3,p4,p5,_⟩:=HX.out.1
  obtain ⟨q0,q1,q2,q3,q4,q5,_⟩:=HX.out.2.1
  go_upto_region 7 with fail
  have HOW:Hid ((w2.alloc (.cells #[.int .i64 p,.int .i64 z1.p.lsn,.int .i64 z1.p.kind,.int .i64 z1.p.level,.int .i64 z1.p.right,.string z1.p.high,.slice z1.ao z1.p.items.length z1.cp,.int .i64 J,.int .i64 z2.p.lsn,.int .i64 z2.p.kind,.int .i64 z2.p.level,.int .i64 z2.p.right,.string z2.p.high,.slice z2.ao z2.p.items.length z2.cp] 65)).ownsRow w.heap.size 65 7 (.slice (some ⟨w2.heap.size,0,none⟩) 2 2) 2 (imc p z1++imc J z2)):=World.ownsRow_lit w2 _ 2 HO3.out.size (by unfold maxLen; omega) rfl
  have HAL:=hide (onlyA w2 (.cells #[.int .i64 p,.int .i64 z1.p.lsn,.int .i64 z1.p.kind,.int .i64 z1.p.level,.int .i64 z1.p.right,.string z1.p.high,.slice z1.ao z1.p.items.length z1.cp,.int .i64 J,.int .i64 z2.p.lsn,.int .i64 z2.p.kind,.int .i64 z2.p.level,.int .i64 z2.p.right,.string z2.p.high,.slice z2.ao z2.p.items.length z2.cp] 65))
  have HA1o:=hide ((HA1'.out.old).more HAL.out)
  have HA2o:=hide ((HA2'.out.old).more HAL.out)
  have HBB:Hid (w.heap.size < w2.heap.size∧q+1+1 < w2.heap.size):=by have h1:=HP3.out.lt; have h2:=HX.out.2.2.1.lt; exact ⟨by omega,by omega⟩
  obtain ⟨w3,hw3⟩:=exq ((w2.alloc (.cells #[.int .i64 p,.int .i64 z1.p.lsn,.int .i64 z1.p.kind,.int .i64 z1.p.level,.int .i64 z1.p.right,.string z1.p.high,.slice z1.ao z1.p.items.length z1.cp,.int .i64 J,.int .i64 z2.p.lsn,.int .i64 z2.p.kind,.int .i64 z2.p.level,.int .i64 z2.p.right,.string z2.p.high,.slice z2.ao z2.p.items.length z2.cp] 65)))
  rw [hw3] at HOW HAL HA1o HA2o ⊢
  clear hw3
  obtain ⟨b,hb⟩:=exq (w2.heap.size)
  rw [hb] at HOW HA1o HA2o HBB ⊢
  clear hb p0 p1 p2 p3 p4 p5 q0 q1 q2 q3 q4 q5
  have HO4:=hide (o2 HO3.out HAL.out)
  have HA1:=hide (HA1o.out.mono (Q:=fun k=>w.heap.size≤k∧k≠b) (fun k hk=>⟨hk.1,by have:=hk.2; omega⟩))
  have HA2:=hide (HA2o.out.mono (Q:=fun k=>w.heap.size≤k∧k≠b) (fun k hk=>⟨hk.1,by have:=hk.2; omega⟩))
  have HP4:=hide (HP3.out.more HAL.out)
  have HE4:=hide (HX.out.2.2.1.more HAL.out)
  clear HX HP3 HAL HA1' HA2'
  have hf0:=(HO4.out.cell (p:=⟨fb,fo,none⟩) HFB.out (fun h=>h)).trans hfr0
  have hc0:=(own_rg HOW.out).cell 0 _ rfl
  rw [Nat.zero_add] at hc0
  have hz0:=(own_rg HOW.out).fr 0 (by simp [imc])
  rw [Nat.zero_add] at hz0
  go_upto_region 10 with fail
  have HOW5:Hid ((w3.setCell ⟨b,0,none⟩ (.int .i64 I)).ownsRow w.heap.size 65 7 (.slice (some ⟨b,0,none⟩) 2 2) 2 (imc I z1++imc J z2)):=own_put (c1:=[]) (c2:=[.int .i64 p]) (c3:=z1.c++imc J z2) HOW.out [.int .i64 I] rfl
  have HSC:Hid (Only (fun k=>k=b) w3 (w3.setCell ⟨b,0,none⟩ (.int .i64 I))):=Only.setCell w3 ⟨b,0,none⟩ _ rfl
  obtain ⟨w5,hw5⟩:=exq (w3.setCell ⟨b,0,none⟩ (.int .i64 I))
  rw [hw5] at HOW5 HSC ⊢
  clear hw5 hc0 hz0 hf0
  have HNB:Hid (w.heap.size≤b):=by have:=HBB.out; unfold Hid; omega
  have HO5:=hide (HO4.out.trans HSC.out (fun k hk e=>by have:=HNB.out; omega))
  have HP5:=hide (HP4.out.kept HSC.out (by have:=HBB.out; omega))
  have HE5:=hide (HE4.out.kept HSC.out (by have:=HBB.out; omega))
  have HA1b:=hide (HA1.out.kept HSC.out (fun k hk=>hk.2))
  have HA2b:=hide (HA2.out.kept HSC.out (fun k hk=>hk.2))
  clear HA1 HA2 HA1o HA2o HP4 HE4 HO4 HSC HOW
  have hf5:=(HO5.out.cell (p:=⟨fb,fo,none⟩) HFB.out (fun h=>h)).trans hfr0
  have HFB5:Hid (fb < w5.heap.size):=Nat.lt_of_lt_of_le HFB.out HO5.out.size
  have hLw:IntKind.i64.wrap (L+1)=L+1:=by rw [IntKind.wrap_i64]; omega
  unfold En.agg at HRT
  go_cut [14,12] (fun x y wx=>∃ b3 z3,x=.pointer (some ⟨b3,0,none⟩)∧y=.int .i64 0∧Hid (Pz3 w5 wx b3 z3∧∃ ao3 cp3,(X.over i j).z 0 ao3 cp3=z3))
  case first=>
    -- {r10
    refine wp_region_noPanic ?_
    refine wp_region_held_drew (S:=fun W=>Only (fun _=>False) w5 W) (by kernel_rfl) (Only.drew _ _) (fun hHeld=>?_)
    refine tkP 0 (.pointer (some ⟨w.heap.size,2,none⟩)) rfl ?_
    refine tkP 3 (.slice (some ⟨fb,fo,none⟩) 2 fc) rfl ?_
    refine tkQ 6 (.agg #[.string e.key,.int .i64 e.page,.int .i64 e.slot]) rfl (yieldsIf_load_ev (by rfl) _ rfl rfl (fun W hW=>HE5.out.more hW)) ?_
    refine tkP 7 (.int .i64 J) rfl ?_
    refine tkQ 1 (.int .i64 L) rfl (yieldsIf_load_cell (by rfl) 3 _ rfl _ rfl (fun W hW=>(HP5.out.more hW).c2) (fun W hc=>ld_int hc)) ?_
    refine tkP 4 (.pointer (some ⟨fb,fo,none⟩)) rfl ?_
    refine tkP 2 (.int .i64 (L+1)) rfl ?_
    refine tkQ 5 (.int .i64 I) rfl (yieldsIf_load_cell (by rfl) 3 _ rfl _ rfl (fun W hW=>(hW.cell (p:=⟨fb,fo,none⟩) HFB5.out (fun h=>h)).trans hf5) (fun W hc=>ld_int hc)) ?_
    refine wpAnyH_ready (rs:=[8,12]) (by kernel_rfl) (by simp) ?_
    refine arC rfl (fun K hK=>?_) (arC rfl (fun K hK=>?_) (AllReadyH.nil))
    · go_simp
      refine (HRT.out _).mono ?_
      rintro x x1 ⟨ao3,cp3,rfl,hA3,ho3⟩
      obtain ⟨z3,hz3⟩:=exq ((X.over i j).z 0 ao3 cp3)
      rw [hz3] at hA3 ⊢
      have HZ3:Hid (∃ ao3 cp3,(X.over i j).z 0 ao3 cp3=z3):=⟨ao3,cp3,hz3⟩
      have HX1:=hide (o2 hHeld ho3)
      have HA3:=hide (hA3.mono (Q:=fun k=>w5.heap.size≤k) (fun k hk=>Nat.le_trans hHeld.size hk))
      clear hz3 hA3 ho3
      unfold Pz.ar
      refine hK.out _ _ (HX1.out) (fun hHeld=>?_)
      clear hK K
      try simp only [Act.put,lsA,lsB,lsC]
      refine tkP 9 (.tuple #[.agg #[.int .i64 z3.p.lsn,.int .i64 z3.p.kind,.int .i64 z3.p.level,.int .i64 z3.p.right,.string z3.p.high,.slice z3.ao z3.p.items.length z3.cp],.int .i64 0]) rfl ?_
      refine tkP 10 (.agg #[.int .i64 z3.p.lsn,.int .i64 z3.p.kind,.int .i64 z3.p.level,.int .i64 z3.p.right,.string z3.p.high,.slice z3.ao z3.p.items.length z3.cp]) rfl ?_
      refine tkP 11 (.int .i64 0) rfl ?_
      refine rd1 12 rfl (fun K hK=>?_)
      go_simp
      refine hK.out _ _ (o2 HX1.out (onlyA _ _)) (fun hHeld=>?_)
      clear hK K
      try simp only [Act.put,lsA,lsB,lsC]
      refine rd1 13 rfl (fun K hK=>?_)
      go_simp
      have HNV:=hide (Pz3.after HX1.out HA3.out)
      refine hK.out _ _ (HNV.out.only) (fun hHeld=>?_)
      clear hK K
      try simp only [Act.put,lsA,lsB,lsC]
      refine tkP 14 (.int .i64 0) rfl ?_
      refine dnN ?_
      go_wp2_with fail
      go_meet
      exact ⟨_,z3,rfl,rfl,HNV.out,HZ3.out⟩
    · go_simp
      have HZA:Hid (Pag ((w5.alloc (.cells #[.int .i64 0,.int .i64 0,.int .i64 0,.int .i64 0,.string ⟨#[]⟩,.slice none 0 0] 24)).drew) w5.heap.size (.int .i64 0) (.int .i64 0) (.int .i64 0) (.int .i64 0) (.string ⟨#[]⟩) (.slice none 0 0)):=(Pag.new w5 _ _ _ _ _ _).more (Only.drew _ _)
      have HOA:Hid (Only (fun _=>False) w5 ((w5.alloc (.cells #[.int .i64 0,.int .i64 0,.int .i64 0,.int .i64 0,.string ⟨#[]⟩,.slice none 0 0] 24)).drew)):=o2 (onlyA _ _) (Only.drew _ _)
      refine hK.out _ _ (HOA.out) (fun hHeld=>?_)
      clear hK K
      try simp only [Act.put,lsA,lsB,lsC]
      refine rd1 8 rfl (fun K hK=>?_)
      go_simp
      refine (HRT.out _).mono ?_
      rintro x x1 ⟨ao3,cp3,rfl,hA3,ho3⟩
      obtain ⟨z3,hz3⟩:=exq ((X.over i j).z 0 ao3 cp3)
      rw [hz3] at hA3 ⊢
      have HZ3:Hid (∃ ao3 cp3,(X.over i j).z 0 ao3 cp3=z3):=⟨ao3,cp3,hz3⟩
      have HX1:=hide (o2 hHeld ho3)
      have HA3:=hide hA3
      have HY1:=hide ho3
      have HZ7:=hide (HZA.out.more ho3)
      obtain ⟨q0,q1,q2,q3,q4,q5,g0,g1,g2,g3,g4,g5,ql⟩:=HZ7.out
      clear hz3 hA3 ho3
      unfold Pz.ar
      refine hK.out _ _ (HX1.out) (fun hHeld=>?_)
      clear hK K
      try simp only [Act.put,lsA,lsB,lsC]
      refine tkP 9 (.tuple #[.agg #[.int .i64 z3.p.lsn,.int .i64 z3.p.kind,.int .i64 z3.p.level,.int .i64 z3.p.right,.string z3.p.high,.slice z3.ao z3.p.items.length z3.cp],.int .i64 0]) rfl ?_
      refine tkP 10 (.agg #[.int .i64 z3.p.lsn,.int .i64 z3.p.kind,.int .i64 z3.p.level,.int .i64 z3.p.right,.string z3.p.high,.slice z3.ao z3.p.items.length z3.cp]) rfl ?_
      refine tkP 11 (.int .i64 0) rfl ?_
      refine rd1 13 rfl (fun K hK=>?_)
      go_simp
      have HNV:=hide (Pz3.before (Nat.le_refl _) HZA.out.lt HOA.out HY1.out HZ7.out HA3.out)
      refine hK.out _ _ (HNV.out.only) (fun hHeld=>?_)
      clear hK K
      try simp only [Act.put,lsA,lsB,lsC]
      refine tkP 14 (.int .i64 0) rfl ?_
      refine dnN ?_
      go_wp2_with fail
      go_meet
      exact ⟨_,z3,rfl,rfl,HNV.out,HZ3.out⟩
    -- r10}
  case rest=>
    obtain ⟨b3,z3,rfl,rfl,HZ3⟩:=hcut
    have HOW6:=hide (own_keptJ HOW5.out HZ3.out.1.only (fun _ _ h=>h))
    have HO6:=hide (o2 HO5.out HZ3.out.1.only)
    have HA16:=hide (HA1b.out.more HZ3.out.1.only)
    have HA26:=hide (HA2b.out.more HZ3.out.1.only)
    have HA36:=hide (HZ3.out.1.at_.old)
    obtain ⟨p0,p1,p2,p3,p4,p5,_⟩:=HZ3.out.1.pag
    have HI7:Hid (Rg (wc.alloc (.cells #[.int .i64 1,.int .i64 z3.p.lsn,.int .i64 z3.p.kind,.int .i64 z3.p.level,.int .i64 z3.p.right,.string z3.p.high,.slice z3.ao z3.p.items.length z3.cp] 65)) wc.heap.size 0 (imc 1 z3)):=Rg.new wc #[.int .i64 1,.int .i64 z3.p.lsn,.int .i64 z3.p.kind,.int .i64 z3.p.level,.int .i64 z3.p.right,.string z3.p.high,.slice z3.ao z3.p.items.length z3.cp] 65
    have HAL7:=hide (onlyA wc (.cells #[.int .i64 1,.int .i64 z3.p.lsn,.int .i64 z3.p.kind,.int .i64 z3.p.level,.int .i64 z3.p.right,.string z3.p.high,.slice z3.ao z3.p.items.length z3.cp] 65))
    obtain ⟨g',c',w8,hr8,how8,hon8,hg8⟩:=im_append _ _ _ _ _ _ (own_keptJ HOW6.out HAL7.out (fun _ _ h=>h)) wc.heap.size 1 z3 HI7.out (by omega) (Nat.le_trans HO6.out.size HAL7.out.size)
    have HR8:=hide hr8
    have HX8:=hide (And.intro how8 (And.intro hon8 hg8))
    clear hr8 how8 hon8 hg8 HI7
    go_wp2_with (at_builtin; go_must (refine Lib.wpList_append_run _ rfl _ _ _ _ rfl _ _ rfl rfl _ _ HR8.out ?_))
    go_ret2
    obtain ⟨⟨_,_,_⟩,ao3,cp3,rfl⟩:=HZ3.out
    obtain ⟨rfl,rfl⟩:=HZ.out
    obtain rfl:=HJ.out
    obtain rfl:=HI.out
    have hA1:=((HA16.out.old.more HAL7.out).kept HX8.out.2.1 (fun k hk e=>hk.1.2 e)).mono (Q:=fun k=>w.heap.size≤k∧k≠g') (fun k hk=>⟨hk.1.1,by have h1:=hk.1.2; have h2:=hk.2; have h3:=HAL7.out.size; rcases HX8.out.2.2 with q | q <;> omega⟩)
    have hA2:=((HA26.out.old.more HAL7.out).kept HX8.out.2.1 (fun k hk e=>hk.1.2 e)).mono (Q:=fun k=>w.heap.size≤k∧k≠g') (fun k hk=>⟨hk.1.1,by have h1:=hk.1.2; have h2:=hk.2; have h3:=HAL7.out.size; rcases HX8.out.2.2 with q | q <;> omega⟩)
    have hb5:b < w5.heap.size:=(World.ownsRow.lt HOW5.out b rfl).2
    have hA3:=((HA36.out.more HAL7.out).kept HX8.out.2.1 (fun k hk e=>by have:=hk.1; omega)).mono (Q:=fun k=>w.heap.size≤k∧k≠g') (fun k hk=>⟨Nat.le_trans HO5.out.size hk.1,by have h1:=hk.1; have h2:=hk.2; have h3:=HAL7.out.size; rcases HX8.out.2.2 with q | q <;> omega⟩)
    exact ⟨g',c',ao1,cp1,ao2,cp2,ao3,cp3,rfl,HX8.out.1,hA1,hA2,hA3,(o2 HO6.out HAL7.out).trans HX8.out.2.1 (fun k hk e=>by have:=HNB.out; omega)⟩
end Go.Proofs.YtipkeeobmihogaaGreat
