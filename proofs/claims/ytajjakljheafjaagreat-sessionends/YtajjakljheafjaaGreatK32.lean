/- Parts. -/
import Derived.Test.YtajjakljheafjaaGreatK30
import Derived.Test.YtajjakljheafjaaGreatK31
import Derived.Deep.RegionHeld3
set_option maxRecDepth 100000
namespace Go.Proofs.YtajjakljheafjaaGreat
open Go.RowKit
structure Vv where
  m:Int
  nx:Int
  aA:Option Addr
  nA:Nat
  cA:Nat
  ow:Int
  aR:Option Addr
  nR:Nat
  cR:Nat
  l:Int
  k:Int
  v:Int
  r:Int
  h:ByteArray
  aP:Option Addr
  nP:Nat
  cP:Nat
abbrev Vv.ar (V:Vv):Array Value:=#[.int .i64 V.m,.int .i64 V.nx,.slice V.aA V.nA V.cA,.int .i64 V.ow,.slice V.aR V.nR V.cR,.int .i64 V.l,.int .i64 V.k,.int .i64 V.v,.int .i64 V.r,.string V.h,.slice V.aP V.nP V.cP]
structure Pv where
  a:Int
  k:Int
  v:Int
  r:Int
  h:ByteArray
  ao:Option Addr
  n:Nat
  cp:Nat
abbrev Pv.ar (B:Pv):Array Value:=#[.int .i64 B.a,.int .i64 B.k,.int .i64 B.v,.int .i64 B.r,.string B.h,.slice B.ao B.n B.cp]
def Rt (e:Ending) (cs:List Value) (is:Bool):Prop:=e=.returned (.tuple #[.agg cs.toArray,.bool is])∧cs.length=16∧cs.all Value.oneCell'=true
def SQ (w:World) (Z:Nat→Prop) (p:Nat) (R:Pn→List Value→Bool→Prop) (e:Ending) (w':World):Prop :=
  ∃ Z' P' cs is,Rt e cs is∧(∀ b,b < w.heap.size→Z' b→Z b)∧Pm w' Z' p P'∧Only Z w w'∧R P' cs is
theorem Cb.pag {w:World} {b:Nat} {v0 v1 v2 v3 v4 v5:Value} (h:Cb w b [v0,v1,v2,v3,v4,v5]):Pag w b v0 v1 v2 v3 v4 v5 :=
  ⟨h.c 0 _ rfl,h.c 1 _ rfl,h.c 2 _ rfl,h.c 3 _ rfl,h.c 4 _ rfl,h.c 5 _ rfl,h.f 0,h.f 1,h.f 2,h.f 3,h.f 4,h.f 5,h.lt⟩
theorem Tryz.sizeRecF:(Tryz.prog.info? 50).map (·.size)=some 16:=by kernel_rfl
theorem Tryz.sizeViewF:(Tryz.prog.info? 42).map (·.size)=some 11:=by kernel_rfl
theorem load_cb16 {w:World} {b:Nat} {cs:List Value} (h:Cb w b cs) (hl:cs.length=16):(loadVar 50 ⟨b,0,none⟩).run Tryz.prog w=.ok (.agg cs.toArray) w :=
  run_loadVar_mid (P:=Tryz.prog) w b 0 50 cs _ h.rg.range Tryz.underlying50 rfl (by rw [hl]; exact Tryz.sizeRecF)
theorem results_cb16 {fn:Func} {p u:Tmp} (h:fn.results=#[.cell p 50,.tmp u]) {tmps:Array Value} {w:World} {b:Nat} {cs:List Value} (hp:tmps.getD p undef=.pointer (some ⟨b,0,none⟩)) (hP:Cb w b cs) (hl:cs.length=16) :
    (results fn tmps).run Tryz.prog w=.ok (.tuple #[.agg cs.toArray,tmps.getD u undef]) w:=by
  have e:(asAddr (.pointer (some ⟨b,0,none⟩))).run Tryz.prog w=.ok ⟨b,0,none⟩ w:=rfl
  rw [results_cell_tmp h,hp,e]
  simp only [Result.andThen,load_cb16 hP hl]
theorem yieldsIf_load_view {ops:Array Oper} {S:World→Prop} {op:Oper} {a:Act} {V:Vv} (hw:Region.wanted op (yielded ops a.tmps)=true) (x:Operand) (ho:op.op=.load 42 x)
    {b:Nat} (hx:a.eval x=.pointer (some ⟨b,0,none⟩)) (hS:∀ w,S w→Cb w b V.ar.toList):YieldsIf Tryz.prog ops S op (.agg V.ar) a :=
  yieldsIf_load_mid hw 42 x ho b 0 hx V.ar.toList _ (fun w h=>(hS w h).rg.range) Tryz.underlying42 rfl Tryz.sizeViewF
structure St3 (w W:World) (V:Vv) (B:Pv):Prop where
  vb:Cb W w.heap.size V.ar.toList
  pb:Cb W (w.heap.size+1) B.ar.toList
  rb:Cb W (w.heap.size+1+1) Hr.none.cl
  only:Only (fun _=>False) w W
theorem St3.new (w:World) (V:Vv) (B:Pv):St3 w (((w.alloc (.cells V.ar 42)).alloc (.cells B.ar 37)).alloc (.cells Hr.none.cells 50)) V B:=by
  have h1:=Cb.new w V.ar.toList 42
  have h2:=Cb.new (w.alloc (.cells V.ar 42)) B.ar.toList 37
  have h3:=Cb.new ((w.alloc (.cells V.ar 42)).alloc (.cells B.ar 37)) Hr.none.cl 50
  rw [World.size_alloc] at h2
  rw [World.size_alloc,World.size_alloc] at h3
  exact ⟨(h1.more (onlyA _ _)).more (onlyA _ _),h2.more (onlyA _ _),h3,o2 (o2 (onlyA _ _) (onlyA _ _)) (onlyA _ _)⟩
theorem St3.kept {S:Nat→Prop} {w W W':World} {V:Vv} {B:Pv} (h:St3 w W V B) (ho:Only S W W') (hS:∀ k,S k→k < w.heap.size∨W.heap.size≤k):Cb W' w.heap.size V.ar.toList∧Cb W' (w.heap.size+1) B.ar.toList∧Cb W' (w.heap.size+1+1) Hr.none.cl:=by
  have l1:=h.vb.lt
  have l2:=h.pb.lt
  have l3:=h.rb.lt
  exact ⟨h.vb.kept ho (fun q=>by have:=hS _ q; omega),h.pb.kept ho (fun q=>by have:=hS _ q; omega),h.rb.kept ho (fun q=>by have:=hS _ q; omega)⟩
theorem St3.more {w W W':World} {V:Vv} {B:Pv} (h:St3 w W V B) (ho:Only (fun _=>False) W W'):St3 w W' V B:=⟨h.vb.more ho,h.pb.more ho,h.rb.more ho,o2 h.only ho⟩
theorem ets_cap {w:World} {base:Nat} {A:Option Addr} {n C:Nat} {es:List En} (h:Ets w base (.slice A n C) es):n≤C:=by
  rcases h.2 with ⟨e,h0⟩ | ⟨g,cap,cur,e,_,_,h1,h2,_⟩
  · injection e with e1 e2 e3
    omega
  · injection e with e1 e2 e3
    omega
def Pn.lf (P:Pn) (A:Option Addr) (C:Nat) (L:List En) (m:Bool) (r:Int):Pn:={ P with ha:=A,hits:=L,hc:=C,more:=m,right:=r }
theorem Pm.leaf {Z:Nat→Prop} {W W':World} {n p:Nat} {P:Pn} (h:Pm W Z p P) (hz:∀ b,Z b→b < n) {A:Option Addr} {C:Nat} {L:List En} {m:Bool} {r:Int} (hE:Ets W n (.slice A L.length C) L) (ho:Only (fun k=>k=p) W W') (hc:Cb W' p ((P.lf A C L m r).cl p)) :
    Pm W' (fun k=>Z k∨(Value.slice A L.length C).ownBlock=some k) p (P.lf A C L m r):=by
  have hlow:∀ k,(Value.slice A L.length C).ownBlock=some k→n≤k∧k < W.heap.size:=fun k hk=>World.ownsRow.lt hE k hk
  have hp:=hz p h.zp
  have hE2:=hE.kept ho (fun k hk e=>by have:=hlow k hk; omega)
  obtain ⟨B,ao,cp,e,hB,hb,hob⟩:=hE2.els
  injection e with e1 e2 e3
  subst e1
  subst e3
  refine ⟨hc,.inl h.zp,?_,h.rows.kept ho (fun k hk e=>(h.rz k hk).2 e),fun k hk=>⟨.inl (h.rz k hk).1,(h.rz k hk).2⟩,B,hB,fun q=>?_⟩
  · rintro b (q | q)
    · exact Nat.lt_of_lt_of_le (h.zlt b q) ho.size
    · exact Nat.lt_of_lt_of_le (hlow b q).2 ho.size
  · have hq:=hb q
    refine ⟨.inr ?_,fun e=>by omega,fun e=>by have:=hz _ (h.rz B e).1; omega⟩
    obtain ⟨o,ea,_⟩:=hB.at_ q
    rw [ea]
    rfl
def HtA (W w':World) (x:Ending) (L:List En) (m:Bool) (er:Int):Prop:=∃ A C,x=.returned (.tuple #[.slice A L.length C,.bool m,.int .i64 er])∧Ets w' W.heap.size (.slice A L.length C) L∧Only (fun _=>False) W w'
def Pn.thr (P:Pn) (A:Option Addr) (C:Nat) (L:List En) (m:Bool) (r er:Int):Pn:=if er=0 then (P.lf A C L m r).lko else P.fl 60
set_option maxHeartbeats 1600000 in
theorem lookThrough_any (w:World) (Z:Nat→Prop) (p:Nat) (P:Pn) (h:Pm w Z p P) (hown:I64 P.own) (V:Vv) (B:Pv) (fa:Option Addr) (fn fc:Nat) (hk:P.key.size≤24) (L:List En) (mr:Bool) (er:Int) (hL:L.length≤1000000)
    (hH:∀ W,Only (fun _=>False) w W→Calls Tryz.prog 93 #[.agg B.ar,.string P.key,.string P.blw] W fun x w'=>HtA W w' x L mr er) :
    Calls Tryz.prog 51 #[.pointer (some ⟨p,0,none⟩),.agg V.ar,.agg B.ar,.slice fa fn fc] w (SQ w Z p (fun P' cs is=>is=false∧cs=Hr.none.cl∧∃ A C,L.length≤C∧P'=P.thr A C L mr B.r er)):=by
  have H3:=hide (St3.new w V B)
  have HO:=hide H3.out.only
  have HH:=hide (h.more HO.out)
  have HHT:=hide hH
  have HK:=hide hk
  have HL:=hide hL
  have HOW:=hide hown
  have HZW:=hide h.zlt
  clear h hH hk hL hown
  unfold Vv.ar Pv.ar at *
  go_enter Tryz.func51,Tryz.ntmps51
  go_upto_region 1 with fail
  obtain ⟨W0,hW0⟩:=exq (((w.alloc (.cells #[.int .i64 V.m,.int .i64 V.nx,.slice V.aA V.nA V.cA,.int .i64 V.ow,.slice V.aR V.nR V.cR,.int .i64 V.l,.int .i64 V.k,.int .i64 V.v,.int .i64 V.r,.string V.h,.slice V.aP V.nP V.cP] 42)).alloc (.cells #[.int .i64 B.a,.int .i64 B.k,.int .i64 B.v,.int .i64 B.r,.string B.h,.slice B.ao B.n B.cp] 37)).alloc (.cells Hr.none.cells 50))
  rw [hW0] at H3 HO HH ⊢
  clear hW0
  refine wp_region_noPanic ?_
  refine wp_region_held_drew (S:=fun W=>Only (fun _=>False) W0 W) (by kernel_rfl) (Only.drew _ _) (fun hHeld=>?_)
  refine tkQ 0 (.agg #[.int .i64 B.a,.int .i64 B.k,.int .i64 B.v,.int .i64 B.r,.string B.h,.slice B.ao B.n B.cp]) rfl (yieldsIf_load_page (by rfl) _ rfl _ rfl (fun W hW=>(H3.out.more hW).pb.pag)) ?_
  refine tkP 1 (.pointer (some ⟨p,0,none⟩)) rfl ?_
  refine tkP 6 (.pointer (some ⟨p,0,none⟩)) rfl ?_
  refine tkP 2 (.pointer (some ⟨p,0,none⟩)) rfl ?_
  refine tkP 3 (.pointer (some ⟨p,0,none⟩)) rfl ?_
  refine tkP 4 (.pointer (some ⟨p,1,none⟩)) rfl ?_
  refine tkQ 5 (.string P.key) rfl (yieldsIf_load_cell (by rfl) 9 _ rfl _ rfl (fun W hW=>(HH.out.more hW).cb.c 1 _ rfl) (fun W hc=>ld_string hc)) ?_
  refine rd1 7 rfl (fun K hK=>?_)
  go_simp
  refine (belowP_any _ Z p P (HH.out.more hHeld) HK.out).mono ?_
  rintro x w1 ⟨rfl,h1⟩
  obtain rfl:=h1.symm
  refine hK.out _ _ (hHeld) (fun hHeld=>?_)
  clear hK K
  try simp only [Act.put,lsA,lsB,lsC]
  refine rd1 8 rfl (fun K hK=>?_)
  go_simp
  refine (HHT.out _ (o2 HO.out hHeld)).mono ?_
  rintro x w2 ⟨A,C,rfl,hE,ho⟩
  have HE:=hide hE
  have HO2:=hide (o2 hHeld ho)
  have HOC:=hide hHeld
  have HOD:=hide ho
  clear hE ho
  refine hK.out _ _ (HO2.out) (fun hHeld=>?_)
  clear hK K
  try simp only [Act.put,lsA,lsB,lsC]
  refine tkP 9 (.tuple #[.slice A L.length C,.bool mr,.int .i64 er]) rfl ?_
  refine tkP 10 (.slice A L.length C) rfl ?_
  refine tkP 11 (.bool mr) rfl ?_
  refine tkP 12 (.int .i64 er) rfl ?_
  refine tkP 13 (.slice A L.length C) rfl ?_
  refine tkP 14 (.bool mr) rfl ?_
  refine tkP 15 (.int .i64 er) rfl ?_
  refine dnN ?_
  have H32:=hide (H3.out.more HO2.out)
  have HH2:=hide (HH.out.more HO2.out)
  have HCP:=hide (ets_cap HE.out)
  have HW2:Hid (w.heap.size+1+1 < w2.heap.size):=H32.out.rb.lt
  have HE1:=hide (HE.out.base (Nat.le_trans (Nat.le_trans (by have:=H3.out.rb.lt; omega) HOC.out.size) (Nat.le_refl _):w.heap.size≤_))
  have HOA:=hide (o2 HO.out HO2.out)
  have HZN:Hid (∀ k,Z k→¬ k=w.heap.size+1+1):=fun k q=>by have:=HZW.out k q; omega
  have HZP:Hid (Z p):=HH.out.zp
  have HNB:Hid (¬ (Value.slice A L.length C).ownBlock=some (w.heap.size+1+1)):=fun q=>by have:=(World.ownsRow.lt HE.out _ q).1; have:=H3.out.rb.lt; have:=HOC.out.size; omega
  clear H3 HHT HK HE HO2 HOC HOD HH HO
  by_cases he:er=0
  · have hb:(er != 0)=false:=by simp [he]
    have HEZ:=hide he
    clear he
    have c17:=HH2.out.cb.c 17 _ rfl
    have c18:=HH2.out.cb.c 18 _ rfl
    have c19:=HH2.out.cb.c 19 _ rfl
    have f17:=HH2.out.cb.f 17
    have f18:=HH2.out.cb.f 18
    have f19:=HH2.out.cb.f 19
    have p3:=H32.out.pb.c 3 _ rfl
    go_upto_region 5 with fail
    have HOP:=hide (((Only.put w2 p 17 (.slice A L.length C)).puts 18 (.bool mr)).puts 19 (.int .i64 B.r))
    have HLF:=hide (Pm.leaf HH2.out HZW.out HE1.out HOP.out (((HH2.out.cb.set 17 (.slice A L.length C)).set 18 (.bool mr)).set 19 (.int .i64 B.r)))
    obtain ⟨w3,hw3⟩:=exq (((w2.setCell ⟨p,17,none⟩ (.slice A L.length C)).setCell ⟨p,18,none⟩ (.bool mr)).setCell ⟨p,19,none⟩ (.int .i64 B.r))
    rw [hw3] at HOP HLF ⊢
    clear hw3 c17 c18 c19 f17 f18 f19 p3
    have HLK:=hide (lookOn_any w3 _ p (P.lf A C L mr B.r) HLF.out HOW.out HL.out)
    go_wp2_with fail
    refine HLK.out.mono ?_
    rintro x w4 ⟨rfl,hp,ho⟩
    have HP4:=hide hp
    have HO4:=hide (Op.two HOP.out ho)
    clear hp ho HLK HLF HOP
    go_wp2_with fail
    refine (nothing_any _).mono ?_
    rintro x w5 ⟨rfl,ho⟩
    have HP5:=hide (HP4.out.more ho)
    have HO5:=hide (Op.fst HO4.out ho)
    have HR5:=hide (H32.out.rb.kept HO5.out (fun q=>HZN.out p HZP.out q.symm))
    clear ho HP4 HO4
    unfold noRec
    go_wp2_with (refine wpList_put_cb rfl 50 (.tmp 8) (.tmp 43) rfl (w.heap.size+1+1) rfl Hr.none.cl Hr.none.cl rfl Tryz.sizeRecF rfl rfl HR5.out ?_; intro W9 HW9; go_frame)
    refine bodyPost_ret (results_cb16 rfl rfl HW9.out.1 rfl) rfl ?_
    have HLW:=HW2.out
    refine ⟨_,_,Hr.none.cl,false,⟨rfl,rfl,rfl⟩,?_,HP5.out.late HW9.out.2 ?_,?_,rfl,rfl,A,C,HCP.out,by unfold Pn.thr; rw [if_pos HEZ.out]⟩
    · rintro b hb (q | q)
      · exact q
      · exact absurd hb (by have:=(World.ownsRow.lt HE1.out b q).1; omega)
    · rintro (q | q)
      · exact HZN.out _ q rfl
      · exact HNB.out q
    · exact (((HOA.out.mono (fun _ _ e=>e.elim)).trans (HO5.out.mono (fun k _ e=>by rw [e]; exact HZP.out)) (fun _ _ e=>e)).trans (HW9.out.2) (fun i hi e=>by omega))
  · have hb:(er != 0)=true:=by simp [he]
    have HEZ:=hide he
    clear he
    have HF:=hide (failS_any w2 Z p P HH2.out 60)
    go_wp2_with fail
    refine HF.out.mono ?_
    rintro x w4 ⟨rfl,hp,ho⟩
    have HP4:=hide hp
    have HO4:=hide ho
    have HR5:=hide (H32.out.rb.kept HO4.out (fun q=>HZN.out p HZP.out q.symm))
    clear hp ho HF
    unfold noRec
    go_wp2_with (refine wpList_put_cb rfl 50 (.tmp 8) (.tmp 30) rfl (w.heap.size+1+1) rfl Hr.none.cl Hr.none.cl rfl Tryz.sizeRecF rfl rfl HR5.out ?_; intro W9 HW9; go_frame)
    refine bodyPost_ret (results_cb16 rfl rfl HW9.out.1 rfl) rfl ?_
    refine ⟨Z,_,Hr.none.cl,false,⟨rfl,rfl,rfl⟩,fun _ _ q=>q,HP4.out.late HW9.out.2 (fun q=>HZN.out _ q rfl),?_,rfl,rfl,A,C,HCP.out,by unfold Pn.thr; rw [if_neg HEZ.out]⟩
    exact (((HOA.out.mono (fun _ _ e=>e.elim)).trans (HO4.out.mono (fun k _ e=>by rw [e]; exact HZP.out)) (fun _ _ e=>e)).trans (HW9.out.2) (fun i hi e=>by omega))
end Go.Proofs.YtajjakljheafjaaGreat
