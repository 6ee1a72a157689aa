/- Parts. -/
import Derived.Test.YtipkeeobmihogaaGreatK12
import Derived.Deep.RegionWith
import Derived.Deep.DeepCutAuto
set_option maxRecDepth 100000
namespace Go.Proofs.YtipkeeobmihogaaGreat
open Go.RowKit
structure Lp (w:World) (r:Int) (h:ByteArray) (hi:En) (B:Nat) (ao:Option Addr) (l:List ByteArray) (es:List En):Prop where
  strs:Strs w B ao l
  right:0≤r∧r≤65535
  high:HiIs h hi
  lf:LfIs hi l es
  few:l.length≤1048576
theorem Lp.more {w w':World} {r:Int} {h:ByteArray} {hi:En} {B:Nat} {ao:Option Addr} {l:List ByteArray} {es:List En} (x:Lp w r h hi B ao l es) (ho:Only (fun _=>False) w w'):Lp w' r h hi B ao l es:=⟨x.strs.more ho,x.right,x.high,x.lf,x.few⟩
theorem Lp.read {w:World} {r:Int} {h:ByteArray} {hi:En} {B:Nat} {ao:Option Addr} {l:List ByteArray} {es:List En} (x:Lp w r h hi B ao l es) (a:Int) (cp:Nat):Calls Tryz.prog 72 #[.agg #[.int .i64 a,.int .i64 3,.int .i64 0,.int .i64 r,.string h,.slice ao l.length cp]] w fun e w'=>LfR w w' e hi es:=readLeaf_ok w a r h hi B cp ao l es x.strs x.right x.high x.few x.lf
theorem Lp.len {w:World} {r:Int} {h:ByteArray} {hi:En} {B:Nat} {ao:Option Addr} {l:List ByteArray} {es:List En} (x:Lp w r h hi B ao l es):es.length≤1048576:=by
  have:=x.lf.len
  have:=x.few
  omega
structure Ip (w:World) (v r:Int) (h:ByteArray) (hi:En) (B:Nat) (ao:Option Addr) (l:List ByteArray) (ks:List (En × Int)):Prop where
  strs:Strs w B ao l
  level:1≤v∧v≤255
  right:0≤r∧r≤65535
  high:HiIs h hi
  inn:InIs hi l ks
  few:l.length≤1048576
theorem Ip.more {w w':World} {v r:Int} {h:ByteArray} {hi:En} {B:Nat} {ao:Option Addr} {l:List ByteArray} {ks:List (En × Int)} (x:Ip w v r h hi B ao l ks) (ho:Only (fun _=>False) w w'):Ip w' v r h hi B ao l ks:=⟨x.strs.more ho,x.level,x.right,x.high,x.inn,x.few⟩
theorem Ip.read {w:World} {v r:Int} {h:ByteArray} {hi:En} {B:Nat} {ao:Option Addr} {l:List ByteArray} {ks:List (En × Int)} (x:Ip w v r h hi B ao l ks) (a:Int) (cp:Nat):Calls Tryz.prog 73 #[.agg #[.int .i64 a,.int .i64 3,.int .i64 v,.int .i64 r,.string h,.slice ao l.length cp]] w fun e w'=>InR w w' e hi ks:=readInner_ok w a v r h hi B cp ao l ks x.strs x.level x.right x.high x.few x.inn
theorem Ip.len {w:World} {v r:Int} {h:ByteArray} {hi:En} {B:Nat} {ao:Option Addr} {l:List ByteArray} {ks:List (En × Int)} (x:Ip w v r h hi B ao l ks):ks.length≤1048576:=by
  have:=x.inn.len
  have:=x.few
  omega
theorem Ets.base {w:World} {b c:Nat} {v:Value} {es:List En} (h:Ets w b v es) (hc:c≤b):Ets w c v es:=by
  obtain ⟨h3,h4⟩:=h
  refine ⟨h3,?_⟩
  rcases h4 with h4 | ⟨g,cap,cur,hv,hg,hh⟩
  · exact .inl h4
  · exact .inr ⟨g,cap,cur,hv,Nat.le_trans hc hg,hh⟩
theorem Kts.base {w:World} {b c:Nat} {v:Value} {es:List Int} (h:Kts w b v es) (hc:c≤b):Kts w c v es:=by
  obtain ⟨h3,h4⟩:=h
  refine ⟨h3,?_⟩
  rcases h4 with h4 | ⟨g,cap,cur,hv,hg,hh⟩
  · exact .inl h4
  · exact .inr ⟨g,cap,cur,hv,Nat.le_trans hc hg,hh⟩
def EnR (w w':World) (x:Ending) (es:List En):Prop:=∃ A C,x=.returned (.tuple #[.slice A es.length C,.int .i64 0])∧Ets w' w.heap.size (.slice A es.length C) es∧Only (fun _=>False) w w'
set_option maxHeartbeats 1600000 in
theorem entries_ok (w:World) (a r:Int) (h:ByteArray) (hi:En) (B cp:Nat) (ao:Option Addr) (l:List ByteArray) (es:List En) (hP:Lp w r h hi B ao l es) :
    Calls Tryz.prog 36 #[.agg #[.int .i64 a,.int .i64 3,.int .i64 0,.int .i64 r,.string h,.slice ao l.length cp]] w fun x w'=>EnR w w' x es:=by
  have HG:=hide (Pag.new w (.int .i64 a) (.int .i64 3) (.int .i64 0) (.int .i64 r) (.string h) (.slice ao l.length cp))
  have HO:=hide (onlyA w (.cells #[.int .i64 a,.int .i64 3,.int .i64 0,.int .i64 r,.string h,.slice ao l.length cp] 24))
  have HR:=hide ((hP.more HO.out).read a cp)
  clear hP
  go_enter Tryz.func36,Tryz.ntmps36
  go_upto_region 1 with fail
  obtain ⟨W0,hW0⟩:=exq (w.alloc (.cells #[.int .i64 a,.int .i64 3,.int .i64 0,.int .i64 r,.string h,.slice ao l.length cp] 24))
  rw [hW0] at HG HO HR ⊢
  clear hW0
  obtain ⟨p0,p1,p2,p3,p4,p5,_⟩:=HG.out
  go_wp2_with fail
  refine HR.out.mono ?_
  rintro x w1 ⟨A,C,rfl,he,ho⟩
  unfold cvv
  have HE:=hide he
  have HB:Hid (w.heap.size≤W0.heap.size):=HO.out.size
  have HO1:=hide (o2 HO.out ho)
  clear he ho p0 p1 p2 p3 p4 p5 HG HR
  go_upto_region 2 with fail
  have HA:=hide (onlyA w1 (.cells #[.slice A es.length C,.slice none 0 0,.string hi.key,.int .i64 hi.page,.int .i64 hi.slot] 85))
  have HC:=hide (Cv.new w1 (.slice A es.length C) (.slice none 0 0) hi)
  obtain ⟨w2,hw2⟩:=exq (w1.alloc (.cells #[.slice A es.length C,.slice none 0 0,.string hi.key,.int .i64 hi.page,.int .i64 hi.slot] 85))
  rw [hw2] at HA HC ⊢
  clear hw2
  have q0:=HC.out.c0
  go_wp2_with fail
  go_ret2
  exact ⟨A,C,rfl,(HE.out.more HA.out).base HB.out,o2 HO1.out HA.out⟩
def KdR (w w':World) (x:Ending) (ks:List (En × Int)):Prop:=∃ A C A2 C2,x=.returned (.tuple #[.slice A ks.length C,.slice A2 ks.length C2,.int .i64 0])∧Ets w' w.heap.size (.slice A ks.length C) (ks.map Prod.fst)∧Kts w' w.heap.size (.slice A2 ks.length C2) (ks.map Prod.snd)∧Only (fun _=>False) w w'
set_option maxHeartbeats 1600000 in
theorem kids_ok (w:World) (a v r:Int) (h:ByteArray) (hi:En) (B cp:Nat) (ao:Option Addr) (l:List ByteArray) (ks:List (En × Int)) (hP:Ip w v r h hi B ao l ks) :
    Calls Tryz.prog 38 #[.agg #[.int .i64 a,.int .i64 3,.int .i64 v,.int .i64 r,.string h,.slice ao l.length cp]] w fun x w'=>KdR w w' x ks:=by
  have HG:=hide (Pag.new w (.int .i64 a) (.int .i64 3) (.int .i64 v) (.int .i64 r) (.string h) (.slice ao l.length cp))
  have HO:=hide (onlyA w (.cells #[.int .i64 a,.int .i64 3,.int .i64 v,.int .i64 r,.string h,.slice ao l.length cp] 24))
  have HR:=hide ((hP.more HO.out).read a cp)
  clear hP
  go_enter Tryz.func38,Tryz.ntmps38
  go_upto_region 1 with fail
  obtain ⟨W0,hW0⟩:=exq (w.alloc (.cells #[.int .i64 a,.int .i64 3,.int .i64 v,.int .i64 r,.string h,.slice ao l.length cp] 24))
  rw [hW0] at HG HO HR ⊢
  clear hW0
  obtain ⟨p0,p1,p2,p3,p4,p5,_⟩:=HG.out
  go_wp2_with fail
  refine HR.out.mono ?_
  rintro x w1 ⟨A,C,A2,C2,rfl,he,hk,ho⟩
  unfold cvv
  have HE:=hide he
  have HK:=hide hk
  have HB:Hid (w.heap.size≤W0.heap.size):=HO.out.size
  have HO1:=hide (o2 HO.out ho)
  clear he hk ho p0 p1 p2 p3 p4 p5 HG HR
  go_upto_region 2 with fail
  have HA:=hide (onlyA w1 (.cells #[.slice A ks.length C,.slice A2 ks.length C2,.string hi.key,.int .i64 hi.page,.int .i64 hi.slot] 85))
  have HC:=hide (Cv.new w1 (.slice A ks.length C) (.slice A2 ks.length C2) hi)
  obtain ⟨cb,hcb⟩:=exq (w1.heap.size)
  rw [hcb] at HC ⊢
  clear hcb
  obtain ⟨w2,hw2⟩:=exq (w1.alloc (.cells #[.slice A ks.length C,.slice A2 ks.length C2,.string hi.key,.int .i64 hi.page,.int .i64 hi.slot] 85))
  rw [hw2] at HA HC ⊢
  clear hw2
  go_upto_region 4 with fail
  -- {k4
  refine wp_region_noPanic ?_
  refine wp_region_held_drew (S:=fun W=>Only (fun _=>False) w2 W) (by kernel_rfl) (Only.drew _ _) (fun hHeld=>?_)
  refine tkP 0 (.pointer (some ⟨cb,0,none⟩)) rfl ?_
  refine tkP 2 (.pointer (some ⟨cb,1,none⟩)) rfl ?_
  refine tkQ 1 (.slice A ks.length C) rfl (yieldsIf_load_cell (by rfl) 79 _ rfl _ rfl (fun W hW=>(HC.out.more hW).c0) (fun W hc=>ld_entries hc)) ?_
  refine tkQ 3 (.slice A2 ks.length C2) rfl (yieldsIf_load_cell (by rfl) 25 _ rfl _ rfl (fun W hW=>(HC.out.more hW).c1) (fun W hc=>ld_ints hc)) ?_
  refine tkP 4 (.slice A ks.length C) rfl ?_
  refine tkP 5 (.slice A2 ks.length C2) rfl ?_
  refine tkP 6 (.int .i64 0) rfl ?_
  refine dnN ?_
  -- k4}
  go_wp2_with fail
  go_ret3
  exact ⟨A,C,A2,C2,rfl,((HE.out.more HA.out).more (Only.drew _ _)).base HB.out,((HK.out.more HA.out).more (Only.drew _ _)).base HB.out,o2 (o2 HO1.out HA.out) (Only.drew _ _)⟩
set_option maxHeartbeats 1600000 in
theorem read_leaf (w:World) (a r:Int) (h:ByteArray) (hi:En) (B cp:Nat) (ao:Option Addr) (l:List ByteArray) (es:List En) (hP:Lp w r h hi B ao l es) :
    Calls Tryz.prog 33 #[.agg #[.int .i64 a,.int .i64 3,.int .i64 0,.int .i64 r,.string h,.slice ao l.length cp]] w fun x w'=>LfR w w' x hi es:=by
  have HX:=hide (lf_new w (.int .i64 a) (.int .i64 3) (.int .i64 0) (.int .i64 r) (.string h) (.slice ao l.length cp))
  have HR:=hide ((hP.more HX.out.2.2).read a cp)
  clear hP
  go_enter Tryz.func33,Tryz.ntmps33
  go_upto_region 1 with fail
  obtain ⟨W0,hW0⟩:=exq ((w.alloc (.cells #[.int .i64 a,.int .i64 3,.int .i64 0,.int .i64 r,.string h,.slice ao l.length cp] 24)).alloc (.cells #[.slice none 0 0,.slice none 0 0,.string ⟨#[]⟩,.int .i64 0,.int .i64 0] 85))
  rw [hW0] at HX HR ⊢
  clear hW0
  obtain ⟨p0,p1,p2,p3,p4,p5,_⟩:=HX.out.1
  go_wp2_with fail
  refine HR.out.mono ?_
  rintro x w1 ⟨A,C,rfl,he,ho⟩
  unfold cvv
  have HE:=hide he
  have HC:=hide (HX.out.2.1.more ho)
  have HB:Hid (w.heap.size+1 < W0.heap.size):=HX.out.2.1.lt
  have HO1:=hide (o2 HX.out.2.2 ho)
  clear he ho p0 p1 p2 p3 p4 p5 HR
  obtain ⟨r0,r1,r2,r3,r4,f0,f1,f2,f3,f4,_⟩:=HC.out
  go_wp2_with fail
  refine bodyPost_ret (results_cv rfl rfl (HC.out.all _ _ hi)) rfl ?_
  have hfive:=Only.five w1 (w.heap.size+1) (.slice A es.length C) (.slice none 0 0) (.string hi.key) (.int .i64 hi.page) (.int .i64 hi.slot)
  refine ⟨A,C,rfl,(HE.out.kept hfive (fun k hk=>?_)).base (by have:=HB.out; omega),HO1.out.trans hfive (fun i hi e=>by omega)⟩
  have:=(World.ownsRow.lt HE.out k hk).1
  have:=HB.out
  omega
def byV (hi e:En):Value:=if e.ok=true then .tuple #[.bool (byd hi e),.int .i64 0] else .tuple #[.bool false,.int .i64 140]
theorem pe_new (w:World) (v0 v1 v2 v3 v4 v5:Value) (e:En):Pag ((w.alloc (.cells #[v0,v1,v2,v3,v4,v5] 24)).alloc (.cells #[.string e.key,.int .i64 e.page,.int .i64 e.slot] 41)) w.heap.size v0 v1 v2 v3 v4 v5∧Ev ((w.alloc (.cells #[v0,v1,v2,v3,v4,v5] 24)).alloc (.cells #[.string e.key,.int .i64 e.page,.int .i64 e.slot] 41)) (w.heap.size+1) e∧Only (fun _=>False) w ((w.alloc (.cells #[v0,v1,v2,v3,v4,v5] 24)).alloc (.cells #[.string e.key,.int .i64 e.page,.int .i64 e.slot] 41)):=by
  refine ⟨(Pag.new w v0 v1 v2 v3 v4 v5).more (onlyA _ _),?_,o2 (onlyA _ _) (onlyA _ _)⟩
  have e1:=Ev.new (w.alloc (.cells #[v0,v1,v2,v3,v4,v5] 24)) e
  rw [World.size_alloc] at e1
  exact e1
def chE (ks:List (En × Int)) (e:En):Int:=(ks.getD (plE (ks.map Prod.fst) e - 1) (noE,0)).2
def chV (ks:List (En × Int)) (hi e:En):Value:=if e.ok=true∧byd hi e=false then .tuple #[.int .i64 (chE ks e),.int .i64 0] else .tuple #[.int .i64 0,.int .i64 140]
theorem pl_pos {hi:En} {l:List ByteArray} {ks:List (En × Int)} (h:InIs hi l ks) {e:En} (he:e.ok=true):∃ P,plE (ks.map Prod.fst) e=P+1∧P < ks.length:=by
  obtain ⟨c,r,rfl⟩:=h.first
  have h1:0 < plE (((noE,c) :: r).map Prod.fst) e:=by
    unfold plE
    rw [List.map_cons,List.countP_cons_of_pos (by simpa using noE_lt he)]
    omega
  have h2:=plE_le (((noE,c) :: r).map Prod.fst) e
  rw [List.length_map] at h2
  exact ⟨plE (((noE,c) :: r).map Prod.fst) e - 1,by omega,by omega⟩
theorem Ets.elsOf {w:World} {base:Nat} {A:Option Addr} {n C:Nat} {es:List En} (h:Ets w base (.slice A n C) es):∃ B,Els w B A es∧es.length=n:=by
  obtain ⟨B,ao,cp,hv,he,_⟩:=h.els
  injection hv with h1 h2 h3
  subst h1
  exact ⟨B,he,h2.symm⟩
set_option maxHeartbeats 3200000 in
theorem child_ok (w:World) (a v r:Int) (h:ByteArray) (hi e:En) (B cp:Nat) (ao:Option Addr) (l:List ByteArray) (ks:List (En × Int)) (hP:Ip w v r h hi B ao l ks) :
    Calls Tryz.prog 71 #[.agg #[.int .i64 a,.int .i64 3,.int .i64 v,.int .i64 r,.string h,.slice ao l.length cp],e.agg] w fun x w'=>x=.returned (chV ks hi e)∧Only (fun _=>False) w w':=by
  have HX:=hide (pe_new w (.int .i64 a) (.int .i64 3) (.int .i64 v) (.int .i64 r) (.string h) (.slice ao l.length cp) e)
  have HR:=hide ((hP.more HX.out.2.2).read a cp)
  have HIE:Hid (∀ W,Calls Tryz.prog 60 #[.agg #[.string e.key,.int .i64 e.page,.int .i64 e.slot]] W fun x w'=>x=.returned (.bool e.ok)∧Only (fun _=>False) W w'):=fun W=>isEntry_any e W
  have HBY:Hid (∀ W (A1 A2:Option Addr) (n1 n2 C1 C2:Nat),Calls Tryz.prog 83 #[.agg #[.slice A1 n1 C1,.slice A2 n2 C2,.string hi.key,.int .i64 hi.page,.int .i64 hi.slot],.agg #[.string e.key,.int .i64 e.page,.int .i64 e.slot]] W fun x w'=>x=.returned (.bool (byd hi e))∧Only (fun _=>False) W w'):=fun W A1 A2 n1 n2 C1 C2=>isBeyond_any W A1 A2 n1 n2 C1 C2 hi e
  have HPL:Hid (∀ (W:World) (A1 A2:Option Addr) (n1 n2 C1 C2:Nat) (base:Nat),Ets W base (.slice A1 n1 C1) (ks.map Prod.fst)→Calls Tryz.prog 84 #[.agg #[.slice A1 n1 C1,.slice A2 n2 C2,.string hi.key,.int .i64 hi.page,.int .i64 hi.slot],.agg #[.string e.key,.int .i64 e.page,.int .i64 e.slot]] W fun x w'=>x=.returned (plV (ks.map Prod.fst) e)∧Only (fun _=>False) W w'):=fun W A1 A2 n1 n2 C1 C2 base hE=>by
    obtain ⟨B1,hels,hln⟩:=hE.elsOf
    exact place_any W B1 n1 C1 A1 A2 n2 C2 hi (ks.map Prod.fst) e hels hln (by have:=hP.len; rw [← hln,List.length_map]; omega) hP.inn.rise
  have HPP:=hide (fun he=>pl_pos hP.inn (e:=e) he)
  have HKL:=hide hP.len
  clear hP
  obtain ⟨R,hR⟩:=exq (chV ks hi e)
  have HRV:Hid (R=if e.ok=true∧byd hi e=false then .tuple #[.int .i64 (chE ks e),.int .i64 0] else .tuple #[.int .i64 0,.int .i64 140]):=hR.symm
  rw [hR]
  obtain ⟨O,hO⟩:=exq (e.ok)
  obtain ⟨Y,hY⟩:=exq (byd hi e)
  rw [hO] at HIE HPP HRV
  rw [hY] at HBY HRV
  clear hO hY hR
  unfold En.agg
  go_enter Tryz.func71,Tryz.ntmps71
  go_upto_region 1 with fail
  obtain ⟨W0,hW0⟩:=exq ((w.alloc (.cells #[.int .i64 a,.int .i64 3,.int .i64 v,.int .i64 r,.string h,.slice ao l.length cp] 24)).alloc (.cells #[.string e.key,.int .i64 e.page,.int .i64 e.slot] 41))
  rw [hW0] at HX HR ⊢
  clear hW0
  obtain ⟨p0,p1,p2,p3,p4,p5,_⟩:=HX.out.1
  go_wp2_with fail
  refine HR.out.mono ?_
  rintro x w1 ⟨A,C,A2,C2,rfl,he,hk,ho⟩
  unfold cvv
  have HV1:=hide (HX.out.2.1.more ho)
  have HO1:=hide (o2 HX.out.2.2 ho)
  have HE1:=hide he
  have HK1:=hide hk
  clear he hk ho p0 p1 p2 p3 p4 p5 HR HX
  go_upto_region 2 with fail
  have HA:=hide (onlyA w1 (.cells #[.slice A ks.length C,.slice A2 ks.length C2,.string hi.key,.int .i64 hi.page,.int .i64 hi.slot] 85))
  have HC:=hide (Cv.new w1 (.slice A ks.length C) (.slice A2 ks.length C2) hi)
  obtain ⟨cb,hcb⟩:=exq (w1.heap.size)
  rw [hcb] at HC ⊢
  clear hcb
  obtain ⟨w2,hw2⟩:=exq (w1.alloc (.cells #[.slice A ks.length C,.slice A2 ks.length C2,.string hi.key,.int .i64 hi.page,.int .i64 hi.slot] 85))
  rw [hw2] at HA HC ⊢
  clear hw2
  have HV2:=hide (HV1.out.more HA.out)
  have HO2:=hide (o2 HO1.out HA.out)
  have HE2:=hide (HE1.out.more HA.out)
  have HK2:=hide (HK1.out.more HA.out)
  clear HA HV1 HO1 HE1 HK1
  obtain ⟨d0,d1,d2,_⟩:=HV2.out
  go_wp2_with fail
  refine (HIE.out _).mono ?_
  rintro x w3 ⟨rfl,ho⟩
  have HV3:=hide (HV2.out.more ho)
  have HC3:=hide (HC.out.more ho)
  have HO3:=hide (o2 HO2.out ho)
  have HE3:=hide (HE2.out.more ho)
  have HK3:=hide (HK2.out.more ho)
  clear ho d0 d1 d2 HV2 HC HO2 HE2 HK2
  cases O with
  | false=>
    have HRX:Hid (R=.tuple #[.int .i64 0,.int .i64 140]):=by unfold Hid; rw [HRV.out,if_neg (by simp)]
    clear HPP HPL HRV
    go_wp2_with fail
    go_ret2
    exact ⟨by rw [HRX.out]; rfl,HO3.out⟩
  | true=>
    obtain ⟨P,hP1,hP2⟩:=HPP.out rfl
    have HP1:=hide hP1
    clear hP1 HPP
    obtain ⟨d0,d1,d2,_⟩:=HV3.out
    obtain ⟨q0,q1,q2,q3,q4,_⟩:=HC3.out
    go_wp2_with fail
    refine (HBY.out _ _ _ _ _ _ _).mono ?_
    rintro x w4 ⟨rfl,ho⟩
    have HV4:=hide (HV3.out.more ho)
    have HC4:=hide (HC3.out.more ho)
    have HO4:=hide (o2 HO3.out ho)
    have HE4:=hide (HE3.out.more ho)
    have HK4:=hide (HK3.out.more ho)
    clear ho d0 d1 d2 q0 q1 q2 q3 q4 HV3 HC3 HO3 HE3 HK3
    cases Y with
    | true=>
      have HRX:Hid (R=.tuple #[.int .i64 0,.int .i64 140]):=by unfold Hid; rw [HRV.out,if_neg (by simp)]
      clear HPL HRV
      go_wp2_with fail
      go_ret2
      exact ⟨by rw [HRX.out]; rfl,HO4.out⟩
    | false=>
      have HRX:Hid (R=.tuple #[.int .i64 (chE ks e),.int .i64 0]):=by unfold Hid; rw [HRV.out,if_pos (by simp)]
      clear HRV
      obtain ⟨d0,d1,d2,_⟩:=HV4.out
      obtain ⟨q0,q1,q2,q3,q4,_⟩:=HC4.out
      have HPL1:=hide (HPL.out w4 A A2 ks.length ks.length C C2 _ HE4.out)
      unfold plV at HPL1
      obtain ⟨D,hD⟩:=exq (decide (e ∈ ks.map Prod.fst))
      rw [HP1.out,hD] at HPL1
      clear hD HPL
      go_wp2_with fail
      refine HPL1.out.mono ?_
      rintro x w5 ⟨rfl,ho⟩
      have HC5:=hide (HC4.out.more ho)
      have HO5:=hide (o2 HO4.out ho)
      obtain ⟨g,cg,hv,_,hgl,hcell⟩:=(HK4.out.more ho).at_ P (by rw [List.length_map]; exact hP2)
      rw [List.getElem_map,List.length_map] at *
      injection hv with hv1 hv2 hv3
      subst hv1
      clear ho d0 d1 d2 q0 q1 q2 q3 q4 hv2 hv3 hgl
      have q1:=HC5.out.c1
      have hwn:IntKind.i64.wrap (P:Int)=(P:Int):=by have:=HKL.out; rw [IntKind.wrap_i64]; omega
      have hb1:¬ (ks.length:Int)≤(P:Int):=by omega
      have hb2:(P:Int) < (ks.length:Int):=by omega
      have HQ:Hid (chE ks e=ks[P].2):=by
        unfold Hid chE
        rw [HP1.out,Nat.add_sub_cancel,List.getD_eq_getElem?_getD,List.getElem?_eq_getElem hP2]
        rfl
      obtain ⟨kd,hkd⟩:=exq (ks[P].2)
      rw [hkd] at HQ hcell
      clear hkd
      go_wp2_with fail
      go_ret2
      exact ⟨by rw [HRX.out,HQ.out]; rfl,HO5.out⟩
def Res (w w':World) (e:Ending) (p:Pg) (c:Int):Prop:=∃ B ao cp,e=.returned (.tuple #[.agg #[.int .i64 p.lsn,.int .i64 p.kind,.int .i64 p.level,.int .i64 p.right,.string p.high,.slice ao p.items.length cp],.int .i64 c]) ∧
  Strs w' B ao p.items∧Fit ao p.items.length cp∧Only (fun _=>False) w w'∧(0 < p.items.length→w.heap.size≤B)
theorem Res.none {w w':World} (c:Int) (ho:Only (fun _=>False) w w'):Res w w' (.returned (.tuple #[.agg #[.int .i64 0,.int .i64 0,.int .i64 0,.int .i64 0,.string ⟨#[]⟩,.slice none 0 0],.int .i64 c])) .none c :=
  ⟨0,Option.none,0,rfl,Strs.nil _ _ _,⟨fun _=>rfl,by simp [Pg.none],by simp⟩,ho,fun h=>absurd h (by simp [Pg.none])⟩
def Or3 (w w':World) (e:Ending) (c:Prop) (p:Pg):Prop:=(c→Res w w' e .none 3)∧(¬ c→Res w w' e p 0)
theorem Or3.yes {w w':World} {e:Ending} {c:Prop} {p:Pg} (hc:c) (h:Res w w' e .none 3):Or3 w w' e c p:=⟨fun _=>h,fun n=>absurd hc n⟩
theorem Or3.no {w w':World} {e:Ending} {c:Prop} {p:Pg} (hc:¬ c) (h:Res w w' e p 0):Or3 w w' e c p:=⟨fun n=>absurd n hc,fun _=>h⟩
theorem Strs.take {w:World} {B:Nat} {ao:Option Addr} {l:List ByteArray} (h:Strs w B ao l) (k:Nat):Strs w B ao (l.take k) :=
  ⟨fun h0=>by
    have hl:0 < l.length:=by simp only [List.length_take] at h0; omega
    obtain ⟨o,e,hc⟩:=h.at_ hl
    exact ⟨o,e,fun j hj=>by rw [List.getElem_take]; exact hc j (by simp only [List.length_take] at hj; omega)⟩,fun h0=>h.lt (by simp only [List.length_take] at h0; omega),by have:=h.len; simp only [List.length_take]; omega,fun s hs=>h.size s (List.mem_of_mem_take hs)⟩
theorem Strs.drop {w:World} {B b o:Nat} {l:List ByteArray} (h:Strs w B (some ⟨b,o,Option.none⟩) l) (k:Nat) (ao:Option Addr) (ha:k < l.length→ao=some ⟨b,o+k,Option.none⟩):Strs w B ao (l.drop k) :=
  ⟨fun h0=>by
    have hl:k < l.length:=by simp only [List.length_drop] at h0; omega
    obtain ⟨o',e,hc⟩:=h.at_ (by omega)
    cases e
    exact ⟨o+k,ha hl,fun j hj=>by rw [List.getElem_drop,Nat.add_assoc]; exact hc (k+j) (by simp only [List.length_drop] at hj; omega)⟩,fun h0=>h.lt (by simp only [List.length_drop] at h0; omega),by have:=h.len; simp only [List.length_drop]; omega,fun s hs=>h.size s (List.mem_of_mem_drop hs)⟩
theorem Pag.set5 {w:World} {b:Nat} {v0 v1 v2 v3 v4 v5:Value} (h:Pag w b v0 v1 v2 v3 v4 v5) (x:Value):Pag (w.setCell ⟨b,5,none⟩ x) b v0 v1 v2 v3 v4 x:=by
  have oth:∀ (j:Nat) (y:Value),5≠j→w.cell? ⟨b,j,none⟩=some y→(w.setCell ⟨b,5,none⟩ x).cell? ⟨b,j,none⟩=some y:=fun j y hij hx=>(World.cell?_setCell_other _ _ _ _ (by intro e; injection e with _ e2; exact hij e2)).trans hx
  exact ⟨oth 0 _ (by omega) h.c0,oth 1 _ (by omega) h.c1,oth 2 _ (by omega) h.c2,oth 3 _ (by omega) h.c3,oth 4 _ (by omega) h.c4,World.cell?_setCell_same _ _ _ h.c5,by simpa using h.f0,by simpa using h.f1,by simpa using h.f2,by simpa using h.f3,by simpa using h.f4,by simpa using h.f5,by simpa using h.lt⟩
theorem Strs.one (w:World) (s:ByteArray) (hs:s.size≤140737488355328):Strs (w.alloc (.cells #[.string s] 9)) w.heap.size (some ⟨w.heap.size,0,none⟩) [s] :=
  ⟨fun _=>⟨0,rfl,fun j hj=>by
    have:j=0:=by simp at hj; omega
    subst this
    simp⟩,fun _=>by simp,by simp,fun t ht=>by simp at ht; rw [ht]; exact hs⟩
theorem cat3 (W:World) (b:Nat) (A0 A1 A2:Option Addr) (C0 C1 C2 B0 B1 B2 n0 n1 n2:Nat) (l0 l1 l2:List ByteArray) (e0:n0=l0.length) (e1:n1=l1.length) (e2:n2=l2.length)
    (c0:W.cell? ⟨b,0,none⟩=some (.slice A0 n0 C0)) (c1:W.cell? ⟨b,1,none⟩=some (.slice A1 n1 C1)) (c2:W.cell? ⟨b,2,none⟩=some (.slice A2 n2 C2))
    (h0:Strs W B0 A0 l0) (h1:Strs W B1 A1 l1) (h2:Strs W B2 A2 l2) (f0:Fit A0 n0 C0) (f1:Fit A1 n1 C1) (f2:Fit A2 n2 C2) (hb:b < W.heap.size) (hroom:n0+n1+n2≤8796093022208) :
    Calls Tryz.prog 114 #[.slice (some ⟨b,0,none⟩) 3 3] W fun e w'=>∃ v,e=.returned v∧Ls w' W.heap.size v (l0++l1++l2)∧Only (fun _=>False) W w':=by
  subst e0
  subst e1
  subst e2
  have h:=concat_any W b 3 3 (fun j=>match j with | 0=>A0 | 1=>A1 | _=>A2) (fun j=>match j with | 0=>C0 | 1=>C1 | _=>C2) (fun j=>match j with | 0=>B0 | 1=>B1 | _=>B2) (fun j=>match j with | 0=>l0 | 1=>l1 | _=>l2)
    (fun j hj=>match j,hj with | 0,_=>c0 | 1,_=>c1 | 2,_=>c2) (fun j hj=>match j,hj with | 0,_=>h0 | 1,_=>h1 | 2,_=>h2) (fun j hj=>match j,hj with | 0,_=>f0 | 1,_=>f1 | 2,_=>f2) (by omega) hb (by simp [catTo]; omega)
  simpa [catTo] using h
def boxes (w:World) (a k v r:Int) (h:ByteArray) (sl:Value):World:=(w.alloc (.cells #[.int .i64 a,.int .i64 k,.int .i64 v,.int .i64 r,.string h,sl] 24)).alloc (.cells #[.int .i64 0,.int .i64 0,.int .i64 0,.int .i64 0,.string ⟨#[]⟩,.slice none 0 0] 24)
theorem boxes_only (w:World) (a k v r:Int) (h:ByteArray) (sl:Value):Only (fun _=>False) w (boxes w a k v r h sl):=o2 (onlyA _ _) (onlyA _ _)
theorem boxes_size (w:World) (a k v r:Int) (h:ByteArray) (sl:Value):(boxes w a k v r h sl).heap.size=w.heap.size+1+1:=by simp [boxes]
theorem boxes_one (w:World) (a k v r:Int) (h:ByteArray) (sl:Value):Pag (boxes w a k v r h sl) w.heap.size (.int .i64 a) (.int .i64 k) (.int .i64 v) (.int .i64 r) (.string h) sl:=(Pag.new w _ _ _ _ _ _).more (onlyA _ _)
theorem boxes_two (w:World) (a k v r:Int) (h:ByteArray) (sl:Value):Pag (boxes w a k v r h sl) (w.heap.size+1) (.int .i64 0) (.int .i64 0) (.int .i64 0) (.int .i64 0) (.string ⟨#[]⟩) (.slice none 0 0):=by
  have h1:=Pag.new (w.alloc (.cells #[.int .i64 a,.int .i64 k,.int .i64 v,.int .i64 r,.string h,sl] 24)) (.int .i64 0) (.int .i64 0) (.int .i64 0) (.int .i64 0) (.string ⟨#[]⟩) (.slice none 0 0)
  have e:(w.alloc (.cells #[.int .i64 a,.int .i64 k,.int .i64 v,.int .i64 r,.string h,sl] 24)).heap.size=w.heap.size+1:=by simp
  rw [e] at h1
  exact h1
structure Aft (w w5:World) (a k v r:Int) (h:ByteArray) (sl:Value) (B5:Nat) (ao5:Option Addr) (cp5:Nat) (nl:List ByteArray):Prop where
  one:Pag w5 w.heap.size (.int .i64 a) (.int .i64 k) (.int .i64 v) (.int .i64 r) (.string h) sl
  two:Pag w5 (w.heap.size+1) (.int .i64 0) (.int .i64 0) (.int .i64 0) (.int .i64 0) (.string ⟨#[]⟩) (.slice none 0 0)
  strs:Strs w5 B5 ao5 nl
  fit:Fit ao5 nl.length cp5
  only:Only (fun _=>False) w w5
  new:0 < nl.length→w.heap.size+1 < B5
theorem Aft.store {w w5:World} {a k v r:Int} {h:ByteArray} {sl:Value} {B5:Nat} {ao5:Option Addr} {cp5:Nat} {nl:List ByteArray} (H:Aft w w5 a k v r h sl B5 ao5 cp5 nl) (x:Value):Aft w (w5.setCell ⟨w.heap.size,5,none⟩ x) a k v r h x B5 ao5 cp5 nl:=by
  have ho:Only (fun k=>k=w.heap.size) w5 (w5.setCell ⟨w.heap.size,5,none⟩ x):=Only.setCell w5 ⟨w.heap.size,5,none⟩ x rfl
  exact ⟨H.one.set5 x,H.two.kept ho (by omega),H.strs.kept ho (fun h=>by have:=H.new h; omega),H.fit,H.only.trans ho (fun i hi e=>by omega),H.new⟩
theorem Aft.more {w w5 w6:World} {a k v r:Int} {h:ByteArray} {sl:Value} {B5:Nat} {ao5:Option Addr} {cp5:Nat} {nl:List ByteArray} (H:Aft w w5 a k v r h sl B5 ao5 cp5 nl) (ho:Only (fun _=>False) w5 w6):Aft w w6 a k v r h sl B5 ao5 cp5 nl :=
  ⟨H.one.more ho,H.two.more ho,H.strs.more ho,H.fit,o2 H.only ho,H.new⟩
theorem Aft.res {w w5:World} {a k v r:Int} {h:ByteArray} {sl:Value} {B5:Nat} {ao5:Option Addr} {cp5:Nat} {nl:List ByteArray} (H:Aft w w5 a k v r h sl B5 ao5 cp5 nl) (v0 v1 v2 v3 v4 v5:Value) (c:Int) (w6:World)
    (hw:w6=((((((w5.setCell ⟨w.heap.size+1,0,none⟩ v0).setCell ⟨w.heap.size+1,1,none⟩ v1).setCell ⟨w.heap.size+1,2,none⟩ v2).setCell ⟨w.heap.size+1,3,none⟩ v3).setCell ⟨w.heap.size+1,4,none⟩ v4).setCell ⟨w.heap.size+1,5,none⟩ v5)) :
    Res w w6 (.returned (.tuple #[.agg #[.int .i64 a,.int .i64 k,.int .i64 v,.int .i64 r,.string h,.slice ao5 nl.length cp5],.int .i64 c])) ⟨a,k,v,r,h,nl⟩ c∧Only (fun _=>False) w w6:=by
  have ho:=Only.six w5 (w.heap.size+1) v0 v1 v2 v3 v4 v5
  rw [← hw] at ho
  have ho2:Only (fun _=>False) w w6:=H.only.trans ho (fun i hi e=>by omega)
  exact ⟨⟨B5,ao5,cp5,rfl,H.strs.kept ho (fun h=>by have:=H.new h; omega),H.fit,ho2,fun h=>by have:=H.new h; omega⟩,ho2⟩
theorem put_cat (w:World) (a k v r:Int) (h:ByteArray) (B b o cp:Nat) (l:List ByteArray) (i:Nat) (it:ByteArray) (hS:Strs w B (some ⟨b,o,none⟩) l) (hF:Fit (some ⟨b,o,none⟩) l.length cp) (hit:it.size≤140737488355328) (hi:i≤l.length) (hlm:l.length≤8796093021952) (A2:Option Addr) (hA:i < l.length→A2=some ⟨b,o+i,none⟩) (hA0:A2≠none) (W:World)
    (hW:Only (fun _=>False) (((boxes w a k v r h (.slice (some ⟨b,o,none⟩) l.length cp)).alloc (.cells #[.string it] 9)).alloc (.cells #[.slice (some ⟨b,o,none⟩) i cp,.slice (some ⟨w.heap.size+1+1,0,none⟩) 1 1,.slice A2 (l.length - i) (cp - i)] 22)) W) :
    Calls Tryz.prog 114 #[.slice (some ⟨w.heap.size+1+1+1,0,none⟩) 3 3] W fun e w'=>∃ B5 ao5 cp5,e=.returned (.slice ao5 (l.take i++it :: l.drop i).length cp5)∧w'.cell? ⟨w.heap.size,5,none⟩=some (.slice (some ⟨b,o,none⟩) l.length cp)∧w'.frozen? ⟨w.heap.size,5,none⟩=false∧Hid (Aft w w' a k v r h (.slice (some ⟨b,o,none⟩) l.length cp) B5 ao5 cp5 (l.take i++it :: l.drop i)):=by
  have hlen:=hS.len
  have hB1:=boxes_one w a k v r h (.slice (some ⟨b,o,none⟩) l.length cp)
  have hB2:=boxes_two w a k v r h (.slice (some ⟨b,o,none⟩) l.length cp)
  have hcp:=hF.le
  have hbig:=hF.big
  obtain ⟨W0,hW0⟩:=exq (boxes w a k v r h (.slice (some ⟨b,o,none⟩) l.length cp))
  have hz:=boxes_size w a k v r h (.slice (some ⟨b,o,none⟩) l.length cp)
  have ho0:=boxes_only w a k v r h (.slice (some ⟨b,o,none⟩) l.length cp)
  rw [hW0] at hW hz ho0 hB1 hB2
  have hS0:=hS.more ho0
  have hS1:=Strs.one W0 it hit
  rw [hz] at hS1
  have hS2:=(hS0.more (o2 (onlyA _ _) (onlyA _ _))).more hW
  have hS3:=(hS1.more (onlyA _ _)).more hW
  have hlt:w.heap.size+1+1+1 < ((W0.alloc (.cells #[.string it] 9)).alloc (.cells #[.slice (some ⟨b,o,none⟩) i cp,.slice (some ⟨w.heap.size+1+1,0,none⟩) 1 1,.slice A2 (l.length - i) (cp - i)] 22)).heap.size:=by simp; omega
  have hz1:(W0.alloc (.cells #[.string it] 9)).heap.size=w.heap.size+1+1+1:=by simp; omega
  have hc:∀ j (x:Value),#[Value.slice (some ⟨b,o,none⟩) i cp,.slice (some ⟨w.heap.size+1+1,0,none⟩) 1 1,.slice A2 (l.length - i) (cp - i)][j]?=some x→W.cell? ⟨w.heap.size+1+1+1,j,none⟩=some x:=by
    intro j x hx
    rw [hW.cell (p:=⟨w.heap.size+1+1+1,j,none⟩) hlt (fun h=>h),← hz1]
    simpa using hx
  have key:=cat3 W (w.heap.size+1+1+1) (some ⟨b,o,none⟩) (some ⟨w.heap.size+1+1,0,none⟩) A2 cp 1 (cp - i) B (w.heap.size+1+1) B i 1 (l.length - i) (l.take i) [it] (l.drop i)
    (by simp; omega) rfl (by simp) (hc 0 _ rfl) (hc 1 _ rfl) (hc 2 _ rfl) (hS2.take i) hS3 (hS2.drop i _ hA)
    ⟨(fun h=>by cases h),by omega,hbig⟩ ⟨(fun h=>by cases h),by omega,(by unfold maxLen; omega)⟩ ⟨(fun h=>absurd h hA0),by omega,by omega⟩ (Nat.lt_of_lt_of_le hlt hW.size) (by omega)
  have e3:l.take i++[it]++l.drop i=l.take i++it :: l.drop i:=by simp
  rw [e3] at key
  have hsz:∀ s ∈ l.take i++it :: l.drop i,s.size≤140737488355328:=by
    intro s hs
    rcases List.mem_append.1 hs with hs | hs
    · exact hS.size s (List.mem_of_mem_take hs)
    · rcases List.mem_cons.1 hs with rfl | hs
      · exact hit
      · exact hS.size s (List.mem_of_mem_drop hs)
  have hln:(l.take i++it :: l.drop i).length=l.length+1:=by simp; omega
  refine Calls.mono key ?_
  rintro e w5 ⟨v5,rfl,hl5,ho5⟩
  obtain ⟨B5,ao5,cp5,rfl,hS5,hF5,hB5,_⟩:=hl5.strs (by omega) hsz
  have hoo:=o2 (o2 (onlyA W0 (.cells #[.string it] 9)) (onlyA _ _)) (o2 hW ho5)
  have hP:=hB1.more hoo
  have hWs:=hW.size
  exact ⟨B5,ao5,cp5,rfl,hP.c5,hP.f5,⟨hP,hB2.more hoo,hS5,hF5,o2 ho0 hoo,fun h=>by have:=hB5 h; omega⟩⟩
set_option maxHeartbeats 1600000 in
theorem put_some (w:World) (a k v r:Int) (h:ByteArray) (B b o cp:Nat) (l:List ByteArray) (i:Nat) (it:ByteArray) (hS:Strs w B (some ⟨b,o,none⟩) l) (hF:Fit (some ⟨b,o,none⟩) l.length cp) (hh:h.size≤140737488355328) (hit:it.size≤140737488355328) (hi:i≤l.length) (hlm:l.length≤8796093021952) :
    Calls Tryz.prog 85 #[.agg #[.int .i64 a,.int .i64 k,.int .i64 v,.int .i64 r,.string h,.slice (some ⟨b,o,none⟩) l.length cp],.int .i64 (i:Int),.string it] w fun e w'=>
      Or3 w w' e (255 < (l.take i++it :: l.drop i).length∨512 < 20+h.size+isz (l.take i++it :: l.drop i)) ⟨a,k,v,r,h,l.take i++it :: l.drop i⟩:=by
  have hcp:=hF.le
  have hbig:=hF.big
  unfold maxLen at hbig
  obtain ⟨A2,hA2⟩:=exq ((if cp=i then some (⟨b,o,none⟩:Addr) else some ⟨b,o+i,none⟩))
  have HCAT:=hide (put_cat w a k v r h B b o cp l i it hS hF hit hi hlm A2 (fun hk=>by rw [← hA2,if_neg (by omega)]) (by rw [← hA2]; split <;> simp))
  clear hS hF
  obtain ⟨nl,hnl⟩:=exq (l.take i++it :: l.drop i)
  rw [hnl] at HCAT ⊢
  clear hnl
  have hi0:(0:Int)≤(i:Int):=by omega
  have hi1:¬ ((l.length:Int) < (i:Int)):=by omega
  go_enter Tryz.func85,Tryz.ntmps85
  go_upto_region 3 with fail
  go_cut [29] (fun t wc=>∃ B5 ao5 cp5,t=.slice ao5 nl.length cp5∧Hid (Aft w wc a k v r h (.slice ao5 nl.length cp5) B5 ao5 cp5 nl))
  case first=>
    go_region_with (
      go_at_call 114
      refine (HCAT.out _ (Only.drew _ _)).mono ?_
      rintro e w5 ⟨B5,ao5,cp5,rfl,p5,g5,HA⟩)
    all_goals (go_wp2_with fail; go_meet; exact ⟨B5,ao5,cp5,rfl,hide (HA.out.store _)⟩)
  case rest=>
    obtain ⟨B5,ao5,cp5,rfl,HA⟩:=hcut
    obtain ⟨p0,p1,p2,p3,p4,p5,g0,g1,g2,g3,g4,g5,gl⟩:=HA.out.one
    go_wp2_with fail
    refine (fitting_any _ a k v r h B5 cp5 ao5 nl HA.out.strs hh).mono ?_
    rintro e w6 ⟨rfl,ho6⟩
    have HA6:=hide (HA.out.more ho6)
    obtain ⟨q0,q1,q2,q3,q4,q5,t0,t1,t2,t3,t4,t5,tl⟩:=HA6.out.two
    have HQ6:=hide HA6.out.two
    clear ho6 p0 p1 p2 p3 p4 p5 g0 g1 g2 g3 g4 g5 gl
    by_cases hc:255 < nl.length∨512 < 20+h.size+isz nl
    · rw [if_pos hc]
      have HC:=hide hc
      clear hc
      go_wp2_with fail
      refine bodyPost_ret (results_page rfl rfl (Pag.six HQ6.out _ _ _ _ _ _)) rfl ?_
      exact Or3.yes HC.out (Res.none 3 (HA6.out.res _ _ _ _ _ _ 0 _ rfl).2)
    · rw [if_neg hc]
      have HC:=hide hc
      clear hc
      go_wp2_with fail
      refine bodyPost_ret (results_page rfl rfl (Pag.six HQ6.out _ _ _ _ _ _)) rfl ?_
      exact Or3.no HC.out (HA6.out.res _ _ _ _ _ _ 0 _ rfl).1
end Go.Proofs.YtipkeeobmihogaaGreat
