/- Parts. -/
import Derived.Test.YtipkeeobmihogaaGreatK47
set_option maxRecDepth 100000
namespace Go.Proofs.YtipkeeobmihogaaGreat
open Go.RowKit
theorem fins_wi (w:World) (a:Int) (X:Nd) (e:En) (c:Int) (B cp:Nat) (ao:Option Addr) (hP:Nm w X B ao) (ha:0≤a∧a < 9223372036854775808) (hv:X.lv=0) (hF:Fit ao X.items.length cp) :
    Calls Tryz.prog 44 #[.agg #[.int .i64 a,.int .i64 3,.int .i64 X.lv,.int .i64 X.rt,.string (hiB X.hi),.slice ao X.items.length cp],.agg #[.string e.key,.int .i64 e.page,.int .i64 e.slot]] w fun x w'=>Res w w' x (X.wiP a (some (e,c))) (X.wiK (some (e,c))):=by
  have q:=finsert_nd w a X e B cp ao hP ha hv hF
  have e0:(X.lv:Int)=0:=by omega
  rw [e0]
  exact q.mono (fun _ _ q=>wi_some (k:=(e,c)) (InsQ.wi hv hP.few q))
theorem fpos_wi (w:World) (a:Int) (X:Nd) (e:En) (c:Int) (B cp:Nat) (ao:Option Addr) (hP:Nm w X B ao) (ha:0≤a∧a < 9223372036854775808) (hv:0 < X.lv) (hc:okC c=true) (hF:Fit ao X.items.length cp) :
    Calls Tryz.prog 47 #[.agg #[.int .i64 a,.int .i64 3,.int .i64 X.lv,.int .i64 X.rt,.string (hiB X.hi),.slice ao X.items.length cp],.agg #[.string e.key,.int .i64 e.page,.int .i64 e.slot],.int .i64 c] w fun x w'=>Res w w' x (X.wiP a (some (e,c))) (X.wiK (some (e,c))) :=
  (fpost_nd w a X e c B cp ao hP ha hv hF).mono (fun _ _ q=>wi_some (k:=(e,c)) (PosQ.wi hv hP.few hc q))
theorem results_pe3 {fn:Func} {p u y:Tmp} (h:fn.results=#[.cell p 24,.cell u 41,.tmp y]) {tmps:Array Value} {w:World} {b c:Nat} {v0 v1 v2 v3 v4 v5:Value} {t:En} (hp:tmps.getD p undef=.pointer (some ⟨b,0,none⟩)) (hu:tmps.getD u undef=.pointer (some ⟨c,0,none⟩)) (hP:Pag w b v0 v1 v2 v3 v4 v5) (hV:Ev w c t) :
    (results fn tmps).run Tryz.prog w=.ok (.tuple #[.agg #[v0,v1,v2,v3,v4,v5],t.agg,tmps.getD y undef]) w:=by
  have e:(asAddr (.pointer (some ⟨b,0,none⟩))).run Tryz.prog w=.ok ⟨b,0,none⟩ w:=rfl
  have e2:(asAddr (.pointer (some ⟨c,0,none⟩))).run Tryz.prog w=.ok ⟨c,0,none⟩ w:=rfl
  have hp':tmps[p]?.getD undef=.pointer (some ⟨b,0,none⟩):=by simpa using hp
  have hu':tmps[u]?.getD undef=.pointer (some ⟨c,0,none⟩):=by simpa using hu
  simp only [results,h]
  simp [Sem.run_bind,Result.andThen,hp',hu',e,e2,load_page hP,load_ev hV]
structure Lb (w W:World) (v0 v1 v2 v3 v4 v5:Value) (qb xb:Nat) (u0 u1 u2 u3 u4 u5:Value) (e:En):Prop where
  pag:Pag W w.heap.size v0 v1 v2 v3 v4 v5
  rp:Pag W (w.heap.size+1) (.int .i64 0) (.int .i64 0) (.int .i64 0) (.int .i64 0) (.string ⟨#[]⟩) (.slice none 0 0)
  re:Ev W (w.heap.size+1+1) noE
  q:Pag W qb u0 u1 u2 u3 u4 u5
  x:Ev W xb e
  qn:w.heap.size+1+1 < qb
  xn:qb < xb
  only:Only (fun _=>False) w W
theorem Lb.more {w W W':World} {v0 v1 v2 v3 v4 v5:Value} {qb xb:Nat} {u0 u1 u2 u3 u4 u5:Value} {e:En} (h:Lb w W v0 v1 v2 v3 v4 v5 qb xb u0 u1 u2 u3 u4 u5 e) (ho:Only (fun _=>False) W W'):Lb w W' v0 v1 v2 v3 v4 v5 qb xb u0 u1 u2 u3 u4 u5 e :=
  ⟨h.pag.more ho,h.rp.more ho,h.re.more ho,h.q.more ho,h.x.more ho,h.qn,h.xn,o2 h.only ho⟩
theorem Lb.setx {w W:World} {v0 v1 v2 v3 v4 v5:Value} {qb xb:Nat} {u0 u1 u2 u3 u4 u5:Value} {e0:En} (h:Lb w W v0 v1 v2 v3 v4 v5 qb xb u0 u1 u2 u3 u4 u5 e0) (e:En):Lb w (((W.setCell ⟨xb,0,none⟩ (.string e.key)).setCell ⟨xb,1,none⟩ (.int .i64 e.page)).setCell ⟨xb,2,none⟩ (.int .i64 e.slot)) v0 v1 v2 v3 v4 v5 qb xb u0 u1 u2 u3 u4 u5 e:=by
  have hs:=Only.three W xb (.string e.key) (.int .i64 e.page) (.int .i64 e.slot)
  have h1:=h.qn
  have h2:=h.xn
  exact ⟨h.pag.kept hs (by omega),h.rp.kept hs (by omega),h.re.kept hs (by omega),h.q.kept hs (by omega),h.x.all e,h.qn,h.xn,h.only.trans hs (fun i hi k=>by omega)⟩
theorem Lb.setq {w W:World} {v0 v1 v2 v3 v4 v5:Value} {qb xb:Nat} {u0 u1 u2 u3 u4 u5:Value} {e:En} (h:Lb w W v0 v1 v2 v3 v4 v5 qb xb u0 u1 u2 u3 u4 u5 e) (t0 t1 t2 t3 t4 t5:Value):Lb w ((((((W.setCell ⟨qb,0,none⟩ t0).setCell ⟨qb,1,none⟩ t1).setCell ⟨qb,2,none⟩ t2).setCell ⟨qb,3,none⟩ t3).setCell ⟨qb,4,none⟩ t4).setCell ⟨qb,5,none⟩ t5) v0 v1 v2 v3 v4 v5 qb xb t0 t1 t2 t3 t4 t5 e:=by
  have hs:=Only.six W qb t0 t1 t2 t3 t4 t5
  have h1:=h.qn
  have h2:=h.xn
  exact ⟨h.pag.kept hs (by omega),h.rp.kept hs (by omega),h.re.kept hs (by omega),Pag.six h.q _ _ _ _ _ _,h.x.kept hs (by omega),h.qn,h.xn,h.only.trans hs (fun i hi k=>by omega)⟩
theorem lb_new (w:World) (v0 v1 v2 v3 v4 v5:Value):Pag (((w.alloc (.cells #[v0,v1,v2,v3,v4,v5] 24)).alloc (.cells #[.int .i64 0,.int .i64 0,.int .i64 0,.int .i64 0,.string ⟨#[]⟩,.slice none 0 0] 24)).alloc (.cells #[.string ⟨#[]⟩,.int .i64 0,.int .i64 0] 41)) w.heap.size v0 v1 v2 v3 v4 v5∧Pag (((w.alloc (.cells #[v0,v1,v2,v3,v4,v5] 24)).alloc (.cells #[.int .i64 0,.int .i64 0,.int .i64 0,.int .i64 0,.string ⟨#[]⟩,.slice none 0 0] 24)).alloc (.cells #[.string ⟨#[]⟩,.int .i64 0,.int .i64 0] 41)) (w.heap.size+1) (.int .i64 0) (.int .i64 0) (.int .i64 0) (.int .i64 0) (.string ⟨#[]⟩) (.slice none 0 0)∧Ev (((w.alloc (.cells #[v0,v1,v2,v3,v4,v5] 24)).alloc (.cells #[.int .i64 0,.int .i64 0,.int .i64 0,.int .i64 0,.string ⟨#[]⟩,.slice none 0 0] 24)).alloc (.cells #[.string ⟨#[]⟩,.int .i64 0,.int .i64 0] 41)) (w.heap.size+1+1) noE∧Only (fun _=>False) w (((w.alloc (.cells #[v0,v1,v2,v3,v4,v5] 24)).alloc (.cells #[.int .i64 0,.int .i64 0,.int .i64 0,.int .i64 0,.string ⟨#[]⟩,.slice none 0 0] 24)).alloc (.cells #[.string ⟨#[]⟩,.int .i64 0,.int .i64 0] 41)):=by
  obtain ⟨h1,h2,h3⟩:=two_new w v0 v1 v2 v3 v4 v5
  refine ⟨h1.more (onlyA _ _),h2.more (onlyA _ _),?_,o2 h3 (onlyA _ _)⟩
  have e1:=Ev.zero ((w.alloc (.cells #[v0,v1,v2,v3,v4,v5] 24)).alloc (.cells #[.int .i64 0,.int .i64 0,.int .i64 0,.int .i64 0,.string ⟨#[]⟩,.slice none 0 0] 24))
  rw [World.size_alloc,World.size_alloc] at e1
  exact e1
def LdR (w w':World) (x:Ending) (p:Pg) (e:En) (c:Int):Prop:=∃ B ao cp,x=.returned (.tuple #[.agg #[.int .i64 p.lsn,.int .i64 p.kind,.int .i64 p.level,.int .i64 p.right,.string p.high,.slice ao p.items.length cp],e.agg,.int .i64 c]) ∧
  Strs w' B ao p.items∧Fit ao p.items.length cp∧Only (fun _=>False) w w'∧(0 < p.items.length→w.heap.size≤B)
theorem LdR.none {w w':World} (e:En) (c:Int) (ho:Only (fun _=>False) w w'):LdR w w' (.returned (.tuple #[.agg #[.int .i64 0,.int .i64 0,.int .i64 0,.int .i64 0,.string ⟨#[]⟩,.slice none 0 0],e.agg,.int .i64 c])) .none e c :=
  ⟨0,Option.none,0,rfl,Strs.nil _ _ _,⟨fun _=>rfl,by simp [Pg.none],by simp⟩,ho,fun h=>absurd h (by simp [Pg.none])⟩
set_option maxHeartbeats 6400000 in
theorem rblaid_no (w:World) (a k v r:Int) (h:ByteArray) (s:ByteArray) (B cp:Nat) (ao:Option Addr) (l:List ByteArray) (hS:Strs w B ao l) (hh:h.size≤140737488355328) (ha:a < 9223372036854775808) (hb:ckB a k v r h l=false) :
    Calls Tryz.prog 16 #[.agg #[.int .i64 a,.int .i64 k,.int .i64 v,.int .i64 r,.string h,.slice ao l.length cp],.string s] w fun x w'=>LdR w w' x .none noE 140:=by
  have HX:=hide (lb_new w (.int .i64 a) (.int .i64 k) (.int .i64 v) (.int .i64 r) (.string h) (.slice ao l.length cp))
  have hCK:=fcheck_any _ a k v r h B cp ao l (hS.more HX.out.2.2.2) hh ha
  rw [hb] at hCK
  have HCK:Hid (Calls Tryz.prog 41 #[.agg #[.int .i64 a,.int .i64 k,.int .i64 v,.int .i64 r,.string h,.slice ao l.length cp]] _ fun x w'=>x=.returned (.int .i64 140)∧Only (fun _=>False) _ w'):=hCK
  obtain ⟨n,hn⟩:=exq (l.length)
  rw [hn] at HX HCK ⊢
  clear hn hCK hS hh ha hb
  go_enter Tryz.func16,Tryz.ntmps16
  go_upto_region 1 with fail
  obtain ⟨W0,hW0⟩:=exq (((w.alloc (.cells #[.int .i64 a,.int .i64 k,.int .i64 v,.int .i64 r,.string h,.slice ao n cp] 24)).alloc (.cells #[.int .i64 0,.int .i64 0,.int .i64 0,.int .i64 0,.string ⟨#[]⟩,.slice none 0 0] 24)).alloc (.cells #[.string ⟨#[]⟩,.int .i64 0,.int .i64 0] 41))
  rw [hW0] at HX HCK ⊢
  clear hW0
  obtain ⟨p0,p1,p2,p3,p4,p5,_⟩:=HX.out.1
  go_wp2_with fail
  refine HCK.out.mono ?_
  rintro x w1 ⟨rfl,ho⟩
  have HQ1:=hide (HX.out.2.1.more ho)
  have HE1:=hide (HX.out.2.2.1.more ho)
  have HO1:=hide (o2 HX.out.2.2.2 ho)
  clear ho p0 p1 p2 p3 p4 p5 HX HCK
  obtain ⟨q0,q1,q2,q3,q4,q5,g0,g1,g2,g3,g4,g5,ql⟩:=HQ1.out
  obtain ⟨d0,d1,d2,f0,f1,f2,dl⟩:=HE1.out
  go_wp2_with fail
  have hsix:=Only.six w1 (w.heap.size+1) (.int .i64 0) (.int .i64 0) (.int .i64 0) (.int .i64 0) (.string ⟨#[]⟩) (.slice none 0 0)
  have hEv:=HE1.out.kept hsix (by omega)
  have hthr:=Only.three ((((((w1.setCell ⟨w.heap.size+1,0,none⟩ (.int .i64 0)).setCell ⟨w.heap.size+1,1,none⟩ (.int .i64 0)).setCell ⟨w.heap.size+1,2,none⟩ (.int .i64 0)).setCell ⟨w.heap.size+1,3,none⟩ (.int .i64 0)).setCell ⟨w.heap.size+1,4,none⟩ (.string ⟨#[]⟩)).setCell ⟨w.heap.size+1,5,none⟩ (.slice none 0 0)) (w.heap.size+1+1) (.string ⟨#[]⟩) (.int .i64 0) (.int .i64 0)
  refine bodyPost_ret (results_pe3 rfl rfl rfl ((Pag.six HQ1.out (.int .i64 0) (.int .i64 0) (.int .i64 0) (.int .i64 0) (.string ⟨#[]⟩) (.slice none 0 0)).kept hthr (by omega)) (hEv.all noE)) rfl ?_
  exact LdR.none _ _ ((HO1.out.trans hsix (fun i hi e=>by omega)).trans hthr (fun i hi e=>by omega))
def Nd.ldK (X:Nd):Option (En × Int)→Int
  | none=>140
  | some k=>if X.std k.1=true then 150 else X.wiK (some k)
def Nd.ldP (X:Nd) (a:Int):Option (En × Int)→Pg
  | none=>.none
  | some k=>if X.std k.1=true then .none else X.wiP a (some k)
def Nd.ldE (X:Nd):Option (En × Int)→En
  | none=>noE
  | some k=>if X.std k.1=true then k.1 else if X.wiK (some k)=140 then noE else k.1
section Ret
variable {W:World} {pb eb:Nat} {t0 t1 t2 t3 t4 t5:Value} {d:En} (hP:Pag W pb t0 t1 t2 t3 t4 t5) (hE:Ev W eb d) (hne:pb≠eb) (v0 v1 v2 v3 v4 v5:Value) (e:En)
include hP hE hne
theorem ret_A:Pag (((((((((W.setCell ⟨pb,0,none⟩ v0).setCell ⟨pb,1,none⟩ v1).setCell ⟨pb,2,none⟩ v2).setCell ⟨pb,3,none⟩ v3).setCell ⟨pb,4,none⟩ v4).setCell ⟨pb,5,none⟩ v5).setCell ⟨eb,0,none⟩ (.string e.key)).setCell ⟨eb,1,none⟩ (.int .i64 e.page)).setCell ⟨eb,2,none⟩ (.int .i64 e.slot)) pb v0 v1 v2 v3 v4 v5∧Ev (((((((((W.setCell ⟨pb,0,none⟩ v0).setCell ⟨pb,1,none⟩ v1).setCell ⟨pb,2,none⟩ v2).setCell ⟨pb,3,none⟩ v3).setCell ⟨pb,4,none⟩ v4).setCell ⟨pb,5,none⟩ v5).setCell ⟨eb,0,none⟩ (.string e.key)).setCell ⟨eb,1,none⟩ (.int .i64 e.page)).setCell ⟨eb,2,none⟩ (.int .i64 e.slot)) eb e∧Only (fun k=>k=pb∨k=eb) W (((((((((W.setCell ⟨pb,0,none⟩ v0).setCell ⟨pb,1,none⟩ v1).setCell ⟨pb,2,none⟩ v2).setCell ⟨pb,3,none⟩ v3).setCell ⟨pb,4,none⟩ v4).setCell ⟨pb,5,none⟩ v5).setCell ⟨eb,0,none⟩ (.string e.key)).setCell ⟨eb,1,none⟩ (.int .i64 e.page)).setCell ⟨eb,2,none⟩ (.int .i64 e.slot)):=by
  have h6:=Only.six W pb v0 v1 v2 v3 v4 v5
  have h3:=Only.three ((((((W.setCell ⟨pb,0,none⟩ v0).setCell ⟨pb,1,none⟩ v1).setCell ⟨pb,2,none⟩ v2).setCell ⟨pb,3,none⟩ v3).setCell ⟨pb,4,none⟩ v4).setCell ⟨pb,5,none⟩ v5) eb (.string e.key) (.int .i64 e.page) (.int .i64 e.slot)
  exact ⟨(Pag.six hP _ _ _ _ _ _).kept h3 hne,(hE.kept h6 (fun k=>hne k.symm)).all e,(h6.mono (fun _ _ k=>.inl k)).trans (h3.mono (fun _ _ k=>.inr k)) (fun _ _ k=>k)⟩
theorem ret_B:Pag ((((((((((W.setCell ⟨eb,0,none⟩ (.string e.key)).setCell ⟨eb,1,none⟩ (.int .i64 e.page)).setCell ⟨eb,2,none⟩ (.int .i64 e.slot)).setCell ⟨pb,0,none⟩ v0).setCell ⟨pb,1,none⟩ v1).setCell ⟨pb,2,none⟩ v2).setCell ⟨pb,3,none⟩ v3).setCell ⟨pb,4,none⟩ v4).setCell ⟨pb,5,none⟩ v5)) pb v0 v1 v2 v3 v4 v5∧Ev ((((((((((W.setCell ⟨eb,0,none⟩ (.string e.key)).setCell ⟨eb,1,none⟩ (.int .i64 e.page)).setCell ⟨eb,2,none⟩ (.int .i64 e.slot)).setCell ⟨pb,0,none⟩ v0).setCell ⟨pb,1,none⟩ v1).setCell ⟨pb,2,none⟩ v2).setCell ⟨pb,3,none⟩ v3).setCell ⟨pb,4,none⟩ v4).setCell ⟨pb,5,none⟩ v5)) eb e∧Only (fun k=>k=pb∨k=eb) W ((((((((((W.setCell ⟨eb,0,none⟩ (.string e.key)).setCell ⟨eb,1,none⟩ (.int .i64 e.page)).setCell ⟨eb,2,none⟩ (.int .i64 e.slot)).setCell ⟨pb,0,none⟩ v0).setCell ⟨pb,1,none⟩ v1).setCell ⟨pb,2,none⟩ v2).setCell ⟨pb,3,none⟩ v3).setCell ⟨pb,4,none⟩ v4).setCell ⟨pb,5,none⟩ v5)):=by
  have h3:=Only.three W eb (.string e.key) (.int .i64 e.page) (.int .i64 e.slot)
  have h6:=Only.six (((W.setCell ⟨eb,0,none⟩ (.string e.key)).setCell ⟨eb,1,none⟩ (.int .i64 e.page)).setCell ⟨eb,2,none⟩ (.int .i64 e.slot)) pb v0 v1 v2 v3 v4 v5
  exact ⟨Pag.six (hP.kept h3 hne) _ _ _ _ _ _,(hE.all e).kept h6 (fun k=>hne k.symm),(h3.mono (fun _ _ k=>.inr k)).trans (h6.mono (fun _ _ k=>.inl k)) (fun _ _ k=>k)⟩
end Ret
set_option maxHeartbeats 6400000 in
theorem rblaid_leaf (w:World) (a:Int) (X:Nd) (s:ByteArray) (B cp:Nat) (ao:Option Addr) (hP:Nm w X B ao) (ha:0≤a∧a < 9223372036854775808) (hv:X.lv=0) (hF:Fit ao X.items.length cp) (hs:s.size≤140737488355328) :
    Calls Tryz.prog 16 #[.agg #[.int .i64 a,.int .i64 3,.int .i64 0,.int .i64 X.rt,.string (hiB X.hi),.slice ao X.items.length cp],.string s] w fun x w'=>LdR w w' x (X.ldP a (brd X.lv s)) (X.ldE (brd X.lv s)) (X.ldK (brd X.lv s)):=by
  have HX:=hide (lb_new w (.int .i64 a) (.int .i64 3) (.int .i64 0) (.int .i64 X.rt) (.string (hiB X.hi)) (.slice ao X.items.length cp))
  have e0:(X.lv:Int)=0:=by omega
  have hCK:=fcheck_nd _ a X B cp ao (hP.more HX.out.2.2.2) ha
  rw [e0] at hCK
  have HCK:=hide hCK
  have HEN:=hide (fun (W:World) (ho:Only (fun _=>False) w W)=>fentries_nd W a X B cp ao (hP.more ho) ha hv)
  have hIN:=fun (W:World) (ho:Only (fun _=>False) w W) (e:En)=>fins_wi W a X e 0 B cp ao (hP.more ho) ha hv hF
  rw [e0] at hIN
  have HIN:=hide hIN
  have hbr:brd X.lv s=(decE (bl s)).map (fun e=>(e,0)):=by unfold brd; rw [if_pos hv]
  have HEL:Hid (X.es.length≤82):=by have:=hP.few; have:=Nd.es_len X; unfold Hid; omega
  have HNB:Hid (X.wiP a (some (noE,0))=.none∧X.wiK (some (noE,0))=140):=by
    have hb:X.bad noE:=.inl rfl
    unfold Nd.wiP Nd.wiK
    exact ⟨if_pos hb,if_pos hb⟩
  have HSD:Hid (∀ e,X.std e=decide (e ∈ X.es)):=fun e=>by
    unfold Nd.std
    simp [hv]
  rw [hbr]
  have HDC:=hide (fun W=>fdecode_any s W (by unfold maxLen; omega))
  clear hP ha hv hF hs e0 hCK hIN hbr
  obtain ⟨h,hh⟩:=exq (hiB X.hi)
  obtain ⟨R,hR⟩:=exq ((X.rt:Int))
  obtain ⟨n,hn⟩:=exq (X.items.length)
  rw [hh,hR,hn] at HX HCK HEN HIN ⊢
  clear hh hR hn
  cases hd:decE (bl s) with
  | none=>
    rw [hd] at HDC
    obtain ⟨LP,hLP⟩:∃ p:Pg,Pg.none=p:=⟨_,rfl⟩
    obtain ⟨LE,hLE⟩:∃ p:En,noE=p:=⟨_,rfl⟩
    obtain ⟨LK,hLK⟩:∃ p:Int,(140:Int)=p:=⟨_,rfl⟩
    have HRES:=hide (And.intro hLP (And.intro hLE hLK))
    show Calls _ _ _ _ fun x w'=>LdR w w' x Pg.none noE 140
    rw [hLP,hLE,hLK]
    clear hLP hLE hLK hd HSD HEL
    have HDC2:Hid (∀ W,Calls Tryz.prog 25 #[.string s] W fun x w'=>x=.returned (.tuple #[.agg #[.string ⟨#[]⟩,.int .i64 0,.int .i64 0],.int .i64 140])∧Only (fun _=>False) W w'):=HDC
    clear HDC
    go_enter Tryz.func16,Tryz.ntmps16
    go_upto_region 1 with fail
    obtain ⟨W0,hW0⟩:=exq (((w.alloc (.cells #[.int .i64 a,.int .i64 3,.int .i64 0,.int .i64 R,.string h,.slice ao n cp] 24)).alloc (.cells #[.int .i64 0,.int .i64 0,.int .i64 0,.int .i64 0,.string ⟨#[]⟩,.slice none 0 0] 24)).alloc (.cells #[.string ⟨#[]⟩,.int .i64 0,.int .i64 0] 41))
    rw [hW0] at HX HCK ⊢
    clear hW0
    obtain ⟨p0,p1,p2,p3,p4,p5,_⟩:=HX.out.1
    go_wp2_with fail
    refine HCK.out.mono ?_
    rintro x w1 ⟨rfl,ho⟩
    have HP1:=hide (HX.out.1.more ho)
    have HQ1:=hide (HX.out.2.1.more ho)
    have HE1:=hide (HX.out.2.2.1.more ho)
    have HO1:=hide (o2 HX.out.2.2.2 ho)
    clear ho p0 p1 p2 p3 p4 p5 HX HCK
    go_upto_region 6 with fail
    have hA1:=onlyA w1 (.cells #[.int .i64 0,.int .i64 0,.int .i64 0,.int .i64 0,.string ⟨#[]⟩,.slice none 0 0] 24)
    have hA2:=onlyA (w1.alloc (.cells #[.int .i64 0,.int .i64 0,.int .i64 0,.int .i64 0,.string ⟨#[]⟩,.slice none 0 0] 24)) (.cells #[.string ⟨#[]⟩,.int .i64 0,.int .i64 0] 41)
    have hEX:=Ev.zero (w1.alloc (.cells #[.int .i64 0,.int .i64 0,.int .i64 0,.int .i64 0,.string ⟨#[]⟩,.slice none 0 0] 24))
    rw [World.size_alloc] at hEX
    have HL2:Hid (Lb w ((w1.alloc (.cells #[.int .i64 0,.int .i64 0,.int .i64 0,.int .i64 0,.string ⟨#[]⟩,.slice none 0 0] 24)).alloc (.cells #[.string ⟨#[]⟩,.int .i64 0,.int .i64 0] 41)) (.int .i64 a) (.int .i64 3) (.int .i64 0) (.int .i64 R) (.string h) (.slice ao n cp) w1.heap.size (w1.heap.size+1) (.int .i64 0) (.int .i64 0) (.int .i64 0) (.int .i64 0) (.string ⟨#[]⟩) (.slice none 0 0) noE):=⟨HP1.out.more (o2 hA1 hA2),HQ1.out.more (o2 hA1 hA2),HE1.out.more (o2 hA1 hA2),(Pag.new w1 (.int .i64 0) (.int .i64 0) (.int .i64 0) (.int .i64 0) (.string ⟨#[]⟩) (.slice none 0 0)).more hA2,hEX,by have:=HE1.out.lt; omega,by omega,o2 HO1.out (o2 hA1 hA2)⟩
    clear hA1 hA2 hEX HP1 HQ1 HE1 HO1
    obtain ⟨xb,hxb⟩:=exq (w1.heap.size+1)
    rw [hxb] at HL2 ⊢
    clear hxb
    obtain ⟨qb,hqb⟩:=exq (w1.heap.size)
    rw [hqb] at HL2 ⊢
    clear hqb
    obtain ⟨w2,hw2⟩:=exq ((w1.alloc (.cells #[.int .i64 0,.int .i64 0,.int .i64 0,.int .i64 0,.string ⟨#[]⟩,.slice none 0 0] 24)).alloc (.cells #[.string ⟨#[]⟩,.int .i64 0,.int .i64 0] 41))
    rw [hw2] at HL2 ⊢
    clear hw2
    have p2:=HL2.out.pag.c2
    go_wp2_with fail
    refine (HDC2.out _).mono ?_
    rintro x w3 ⟨rfl,ho⟩
    have HL3:=hide (HL2.out.more ho)
    clear ho p2 HL2 HDC2
    obtain ⟨d0,d1,d2,f0,f1,f2,dl⟩:=HL3.out.x
    have HL4:Hid (Lb w (((w3.setCell ⟨xb,0,none⟩ (.string ⟨#[]⟩)).setCell ⟨xb,1,none⟩ (.int .i64 0)).setCell ⟨xb,2,none⟩ (.int .i64 0)) (.int .i64 a) (.int .i64 3) (.int .i64 0) (.int .i64 R) (.string h) (.slice ao n cp) qb xb (.int .i64 0) (.int .i64 0) (.int .i64 0) (.int .i64 0) (.string ⟨#[]⟩) (.slice none 0 0) noE):=HL3.out.setx noE
    go_upto_region 8 with fail
    obtain ⟨w4,hw4⟩:=exq (((w3.setCell ⟨xb,0,none⟩ (.string ⟨#[]⟩)).setCell ⟨xb,1,none⟩ (.int .i64 0)).setCell ⟨xb,2,none⟩ (.int .i64 0))
    rw [hw4] at HL4 ⊢
    clear hw4 d0 d1 d2 f0 f1 f2 dl HL3
    obtain ⟨p0,p1,p2,p3,p4,p5,_⟩:=HL4.out.pag
    go_wp2_with fail
    refine (HEN.out _ HL4.out.only).mono ?_
    rintro x w5 ⟨A,C,rfl,he,ho⟩
    have HL5:=hide (HL4.out.more ho)
    have HE5:=hide he
    clear ho he p0 p1 p2 p3 p4 p5 HL4 HEN
    have hI:=HIN.out w5 HL5.out.only noE
    rw [HNB.out.1,HNB.out.2] at hI
    have HI:Hid (Calls Tryz.prog 44 #[.agg #[.int .i64 a,.int .i64 3,.int .i64 0,.int .i64 R,.string h,.slice ao n cp],.agg #[.string ⟨#[]⟩,.int .i64 0,.int .i64 0]] w5 fun x w'=>Res w5 w' x .none 140):=hI
    clear hI HIN
    obtain ⟨p0,p1,p2,p3,p4,p5,_⟩:=HL5.out.pag
    have x0:w5.cell? ⟨xb,0,none⟩=some (.string ⟨#[]⟩):=HL5.out.x.c0
    have x1:w5.cell? ⟨xb,1,none⟩=some (.int .i64 0):=HL5.out.x.c1
    have x2:w5.cell? ⟨xb,2,none⟩=some (.int .i64 0):=HL5.out.x.c2
    go_wp2_with fail
    refine HI.out.mono ?_
    rintro x w7 ⟨B7,ao7,cp7,rfl,hS7,hF7,ho7,hB7⟩
    have HL7:=hide (HL5.out.more ho7)
    clear hS7 hF7 hB7 ho7 p0 p1 p2 p3 p4 p5 x0 x1 x2 HL5 HI
    obtain ⟨q0,q1,q2,q3,q4,q5,g0,g1,g2,g3,g4,g5,ql⟩:=HL7.out.q
    have HL8:=hide (HL7.out.setq (.int .i64 Pg.none.lsn) (.int .i64 Pg.none.kind) (.int .i64 Pg.none.level) (.int .i64 Pg.none.right) (.string Pg.none.high) (.slice ao7 Pg.none.items.length cp7))
    go_upto_region 18 with fail
    obtain ⟨w8,hw8⟩:=exq (((((((w7.setCell ⟨qb,0,none⟩ (.int .i64 Pg.none.lsn)).setCell ⟨qb,1,none⟩ (.int .i64 Pg.none.kind)).setCell ⟨qb,2,none⟩ (.int .i64 Pg.none.level)).setCell ⟨qb,3,none⟩ (.int .i64 Pg.none.right)).setCell ⟨qb,4,none⟩ (.string Pg.none.high)).setCell ⟨qb,5,none⟩ (.slice ao7 Pg.none.items.length cp7)))
    rw [hw8] at HL8 ⊢
    clear hw8 q0 q1 q2 q3 q4 q5 g0 g1 g2 g3 g4 g5 ql HL7
    have HRA:=hide (ret_A HL8.out.rp HL8.out.re (by omega) (.int .i64 0) (.int .i64 0) (.int .i64 0) (.int .i64 0) (.string ⟨#[]⟩) (.slice none 0 0) noE)
    obtain ⟨q0,q1,q2,q3,q4,q5,g0,g1,g2,g3,g4,g5,ql⟩:=HL8.out.rp
    obtain ⟨d0,d1,d2,f0,f1,f2,dl⟩:=HL8.out.re
    go_wp2_with fail
    refine bodyPost_ret (results_pe3 rfl rfl rfl HRA.out.1 HRA.out.2.1) rfl ?_
    obtain ⟨rfl,rfl,rfl⟩:=HRES.out
    exact LdR.none _ _ (HL8.out.only.trans HRA.out.2.2 (fun i hi k=>by omega))
  | some e=>
    rw [hd] at HDC
    show Calls _ _ _ _ fun x w'=>LdR w w' x (X.ldP a (some (e,0))) (X.ldE (some (e,0))) (X.ldK (some (e,0)))
    obtain ⟨LP,hLP⟩:=exq (X.ldP a (some (e,0)))
    obtain ⟨LE,hLE⟩:=exq (X.ldE (some (e,0)))
    obtain ⟨LK,hLK⟩:=exq (X.ldK (some (e,0)))
    rw [hLP,hLE,hLK]
    have HLD:=hide (And.intro hLP (And.intro hLE hLK))
    clear hLP hLE hLK hd
    have HDC2:Hid (∀ W,Calls Tryz.prog 25 #[.string s] W fun x w'=>x=.returned (.tuple #[.agg #[.string e.key,.int .i64 e.page,.int .i64 e.slot],.int .i64 0])∧Only (fun _=>False) W w'):=HDC
    clear HDC
    go_enter Tryz.func16,Tryz.ntmps16
    go_upto_region 1 with fail
    obtain ⟨W0,hW0⟩:=exq (((w.alloc (.cells #[.int .i64 a,.int .i64 3,.int .i64 0,.int .i64 R,.string h,.slice ao n cp] 24)).alloc (.cells #[.int .i64 0,.int .i64 0,.int .i64 0,.int .i64 0,.string ⟨#[]⟩,.slice none 0 0] 24)).alloc (.cells #[.string ⟨#[]⟩,.int .i64 0,.int .i64 0] 41))
    rw [hW0] at HX HCK ⊢
    clear hW0
    obtain ⟨p0,p1,p2,p3,p4,p5,_⟩:=HX.out.1
    go_wp2_with fail
    refine HCK.out.mono ?_
    rintro x w1 ⟨rfl,ho⟩
    have HP1:=hide (HX.out.1.more ho)
    have HQ1:=hide (HX.out.2.1.more ho)
    have HE1:=hide (HX.out.2.2.1.more ho)
    have HO1:=hide (o2 HX.out.2.2.2 ho)
    clear ho p0 p1 p2 p3 p4 p5 HX HCK
    go_upto_region 6 with fail
    have hA1:=onlyA w1 (.cells #[.int .i64 0,.int .i64 0,.int .i64 0,.int .i64 0,.string ⟨#[]⟩,.slice none 0 0] 24)
    have hA2:=onlyA (w1.alloc (.cells #[.int .i64 0,.int .i64 0,.int .i64 0,.int .i64 0,.string ⟨#[]⟩,.slice none 0 0] 24)) (.cells #[.string ⟨#[]⟩,.int .i64 0,.int .i64 0] 41)
    have hEX:=Ev.zero (w1.alloc (.cells #[.int .i64 0,.int .i64 0,.int .i64 0,.int .i64 0,.string ⟨#[]⟩,.slice none 0 0] 24))
    rw [World.size_alloc] at hEX
    have HL2:Hid (Lb w ((w1.alloc (.cells #[.int .i64 0,.int .i64 0,.int .i64 0,.int .i64 0,.string ⟨#[]⟩,.slice none 0 0] 24)).alloc (.cells #[.string ⟨#[]⟩,.int .i64 0,.int .i64 0] 41)) (.int .i64 a) (.int .i64 3) (.int .i64 0) (.int .i64 R) (.string h) (.slice ao n cp) w1.heap.size (w1.heap.size+1) (.int .i64 0) (.int .i64 0) (.int .i64 0) (.int .i64 0) (.string ⟨#[]⟩) (.slice none 0 0) noE):=⟨HP1.out.more (o2 hA1 hA2),HQ1.out.more (o2 hA1 hA2),HE1.out.more (o2 hA1 hA2),(Pag.new w1 (.int .i64 0) (.int .i64 0) (.int .i64 0) (.int .i64 0) (.string ⟨#[]⟩) (.slice none 0 0)).more hA2,hEX,by have:=HE1.out.lt; omega,by omega,o2 HO1.out (o2 hA1 hA2)⟩
    clear hA1 hA2 hEX HP1 HQ1 HE1 HO1
    obtain ⟨xb,hxb⟩:=exq (w1.heap.size+1)
    rw [hxb] at HL2 ⊢
    clear hxb
    obtain ⟨qb,hqb⟩:=exq (w1.heap.size)
    rw [hqb] at HL2 ⊢
    clear hqb
    obtain ⟨w2,hw2⟩:=exq ((w1.alloc (.cells #[.int .i64 0,.int .i64 0,.int .i64 0,.int .i64 0,.string ⟨#[]⟩,.slice none 0 0] 24)).alloc (.cells #[.string ⟨#[]⟩,.int .i64 0,.int .i64 0] 41))
    rw [hw2] at HL2 ⊢
    clear hw2
    have p2:=HL2.out.pag.c2
    go_wp2_with fail
    refine (HDC2.out _).mono ?_
    rintro x w3 ⟨rfl,ho⟩
    have HL3:=hide (HL2.out.more ho)
    clear ho p2 HL2 HDC2
    obtain ⟨d0,d1,d2,f0,f1,f2,dl⟩:=HL3.out.x
    have HL4:Hid (Lb w (((w3.setCell ⟨xb,0,none⟩ (.string e.key)).setCell ⟨xb,1,none⟩ (.int .i64 e.page)).setCell ⟨xb,2,none⟩ (.int .i64 e.slot)) (.int .i64 a) (.int .i64 3) (.int .i64 0) (.int .i64 R) (.string h) (.slice ao n cp) qb xb (.int .i64 0) (.int .i64 0) (.int .i64 0) (.int .i64 0) (.string ⟨#[]⟩) (.slice none 0 0) e):=HL3.out.setx e
    go_upto_region 8 with fail
    obtain ⟨w4,hw4⟩:=exq (((w3.setCell ⟨xb,0,none⟩ (.string e.key)).setCell ⟨xb,1,none⟩ (.int .i64 e.page)).setCell ⟨xb,2,none⟩ (.int .i64 e.slot))
    rw [hw4] at HL4 ⊢
    clear hw4 d0 d1 d2 f0 f1 f2 dl HL3
    obtain ⟨p0,p1,p2,p3,p4,p5,_⟩:=HL4.out.pag
    go_wp2_with fail
    refine (HEN.out _ HL4.out.only).mono ?_
    rintro x w5 ⟨A,C,rfl,he,ho⟩
    have HL5:=hide (HL4.out.more ho)
    have HE5:=hide he
    clear ho he p0 p1 p2 p3 p4 p5 HL4 HEN
    obtain ⟨B5,hl5,_⟩:=HE5.out.elsOf
    have HST:=hide (rbstands_any w5 B5 X.es.length C A X.es e hl5 rfl (by have:=HEL.out; omega))
    clear hl5
    obtain ⟨d0,d1,d2,_⟩:=HL5.out.x
    go_wp2_with fail
    refine HST.out.mono ?_
    rintro x w6 ⟨rfl,ho⟩
    have HL6:=hide (HL5.out.more ho)
    clear ho d0 d1 d2 HL5 HE5 HST
    by_cases hm:e ∈ X.es
    · rw [decide_eq_true hm]
      have HRES:Hid (.none=LP∧e=LE∧150=LK):=by
        have h1:=HSD.out e
        rw [decide_eq_true hm] at h1
        obtain ⟨q1,q2,q3⟩:=HLD.out
        rw [← q1,← q2,← q3]
        unfold Nd.ldP Nd.ldE Nd.ldK
        exact ⟨(if_pos h1).symm,(if_pos h1).symm,(if_pos h1).symm⟩
      clear hm HLD HIN
      go_upto_region 10 with fail
      have hRA:=ret_A HL6.out.rp HL6.out.re (by omega) (.int .i64 0) (.int .i64 0) (.int .i64 0) (.int .i64 0) (.string ⟨#[]⟩) (.slice none 0 0) e
      have hRB:=ret_B HL6.out.rp HL6.out.re (by omega) (.int .i64 0) (.int .i64 0) (.int .i64 0) (.int .i64 0) (.string ⟨#[]⟩) (.slice none 0 0) e
      have HRA:=hide hRA
      have HRB:=hide hRB
      clear hRA hRB
      obtain ⟨q0,q1,q2,q3,q4,q5,g0,g1,g2,g3,g4,g5,ql⟩:=HL6.out.rp
      obtain ⟨d0,d1,d2,f0,f1,f2,dl⟩:=HL6.out.re
      obtain ⟨x0,x1,x2,_⟩:=HL6.out.x
      have hx1:¬ xb=w.heap.size+1:=by have:=HL6.out.qn; have:=HL6.out.xn; omega
      have hx2:¬ xb=w.heap.size+1+1:=by have:=HL6.out.qn; have:=HL6.out.xn; omega
      have hx3:¬ w.heap.size+1=xb:=by omega
      have hx4:¬ w.heap.size+1+1=xb:=by omega
      go_region
      all_goals go_wp2_with fail
      all_goals first | (refine bodyPost_ret (results_pe3 rfl rfl rfl (HRA.out.1.more (Only.drew _ _)) (HRA.out.2.1.more (Only.drew _ _))) rfl ?_) | (refine bodyPost_ret (results_pe3 rfl rfl rfl (HRB.out.1.more (Only.drew _ _)) (HRB.out.2.1.more (Only.drew _ _))) rfl ?_)
      all_goals (obtain ⟨rfl,rfl,rfl⟩:=HRES.out)
      all_goals exact LdR.none _ _ (o2 (HL6.out.only.trans HRA.out.2.2 (fun i hi k=>by omega)) (Only.drew _ _))
    · rw [decide_eq_false hm]
      have hI:=HIN.out w6 HL6.out.only e
      obtain ⟨P,hPP⟩:=exq (X.wiP a (some (e,0)))
      obtain ⟨K,hKK⟩:=exq (X.wiK (some (e,0)))
      rw [hPP,hKK] at hI
      have HI:=hide hI
      have HKV:Hid ((K=140∧P=.none∧noE=LE∧.none=LP∧140=LK)∨((K=3∨K=0)∧e=LE∧P=LP∧K=LK)):=by
        have h1:¬ X.std e=true:=by rw [HSD.out e,decide_eq_false hm]; decide
        obtain ⟨q1,q2,q3⟩:=HLD.out
        have r1:P=LP:=by rw [← q1,← hPP]; unfold Nd.ldP; exact (if_neg h1).symm
        have r2:(if K=140 then noE else e)=LE:=by rw [← q2,← hKK]; unfold Nd.ldE; exact (if_neg h1).symm
        have r3:K=LK:=by rw [← q3,← hKK]; unfold Nd.ldK; exact (if_neg h1).symm
        by_cases b:X.bad e
        · have k1:K=140:=by rw [← hKK]; exact if_pos b
          have k2:P=.none:=by rw [← hPP]; exact if_pos b
          rw [if_pos k1] at r2
          exact .inl ⟨k1,k2,r2,by rw [← r1,k2],by rw [← r3,k1]⟩
        · have k1:K=3∨K=0:=by
            rw [← hKK]
            unfold Nd.wiK
            simp only []
            rw [if_neg b]
            by_cases z:512 < (X.ins e 0).size
            · exact .inl (if_pos z)
            · exact .inr (if_neg z)
          rw [if_neg (by omega)] at r2
          exact .inr ⟨k1,r2,r1,r3⟩
      have HQB:Hid (qb < w6.heap.size):=HL6.out.q.lt
      clear hm HLD HIN hI hPP hKK
      obtain ⟨p0,p1,p2,p3,p4,p5,_⟩:=HL6.out.pag
      obtain ⟨x0,x1,x2,_⟩:=HL6.out.x
      go_wp2_with fail
      refine HI.out.mono ?_
      rintro x w7 ⟨B7,ao7,cp7,rfl,hS7,hF7,ho7,hB7⟩
      have HL7:=hide (HL6.out.more ho7)
      have HS7:=hide (And.intro hS7 (And.intro hF7 hB7))
      have HSZ:Hid (w.heap.size+1+1 < w6.heap.size):=HL6.out.re.lt
      clear hS7 hF7 hB7 ho7 p0 p1 p2 p3 p4 p5 x0 x1 x2 HL6 HI
      obtain ⟨q0,q1,q2,q3,q4,q5,g0,g1,g2,g3,g4,g5,ql⟩:=HL7.out.q
      have HL8:=hide (HL7.out.setq (.int .i64 P.lsn) (.int .i64 P.kind) (.int .i64 P.level) (.int .i64 P.right) (.string P.high) (.slice ao7 P.items.length cp7))
      have HS8:Hid (Strs ((((((w7.setCell ⟨qb,0,none⟩ (.int .i64 P.lsn)).setCell ⟨qb,1,none⟩ (.int .i64 P.kind)).setCell ⟨qb,2,none⟩ (.int .i64 P.level)).setCell ⟨qb,3,none⟩ (.int .i64 P.right)).setCell ⟨qb,4,none⟩ (.string P.high)).setCell ⟨qb,5,none⟩ (.slice ao7 P.items.length cp7)) B7 ao7 P.items):=HS7.out.1.kept (Only.six w7 qb (.int .i64 P.lsn) (.int .i64 P.kind) (.int .i64 P.level) (.int .i64 P.right) (.string P.high) (.slice ao7 P.items.length cp7)) (fun k z=>by have:=HS7.out.2.2 k; have:=HQB.out; omega)
      go_upto_region 18 with fail
      obtain ⟨w8,hw8⟩:=exq (((((((w7.setCell ⟨qb,0,none⟩ (.int .i64 P.lsn)).setCell ⟨qb,1,none⟩ (.int .i64 P.kind)).setCell ⟨qb,2,none⟩ (.int .i64 P.level)).setCell ⟨qb,3,none⟩ (.int .i64 P.right)).setCell ⟨qb,4,none⟩ (.string P.high)).setCell ⟨qb,5,none⟩ (.slice ao7 P.items.length cp7)))
      rw [hw8] at HL8 HS8 ⊢
      clear hw8 q0 q1 q2 q3 q4 q5 g0 g1 g2 g3 g4 g5 ql HL7
      rcases HKV.out with ⟨rfl,hPn,hE',hP',hK'⟩ | ⟨hk,hE',hP',hK'⟩
      · have HRES:Hid (.none=LP∧noE=LE∧140=LK):=⟨hP',hE',hK'⟩
        clear hPn hE' hP' hK' HKV
        have HRA:=hide (ret_A HL8.out.rp HL8.out.re (by omega) (.int .i64 0) (.int .i64 0) (.int .i64 0) (.int .i64 0) (.string ⟨#[]⟩) (.slice none 0 0) noE)
        obtain ⟨q0,q1,q2,q3,q4,q5,g0,g1,g2,g3,g4,g5,ql⟩:=HL8.out.rp
        obtain ⟨d0,d1,d2,f0,f1,f2,dl⟩:=HL8.out.re
        go_wp2_with fail
        refine bodyPost_ret (results_pe3 rfl rfl rfl HRA.out.1 HRA.out.2.1) rfl ?_
        obtain ⟨rfl,rfl,rfl⟩:=HRES.out
        exact LdR.none _ _ (HL8.out.only.trans HRA.out.2.2 (fun i hi k=>by omega))
      · have HRES:Hid (P=LP∧e=LE∧K=LK):=⟨hP',hE',hK'⟩
        clear hE' hP' hK' HKV
        have HFIN:Hid (∀ W,Only (fun k=>k=w.heap.size+1∨k=w.heap.size+1+1) w8 W→Strs W B7 ao7 P.items∧Only (fun _=>False) w W∧(0 < P.items.length→w.heap.size≤B7)):=fun W ho=>⟨HS8.out.kept ho (fun k z=>by have:=HS7.out.2.2 k; have:=HSZ.out; omega),HL8.out.only.trans ho (fun i hi k=>by omega),fun k=>by have:=HS7.out.2.2 k; have:=HSZ.out; omega⟩
        go_cut [92] (fun x wx=>x=.bool false∧wx=w8)
        case first=>
          rcases hk with rfl | rfl
          all_goals go_wp2_with fail
          all_goals go_meet
          all_goals exact ⟨rfl,rfl⟩
        case rest=>
          obtain ⟨rfl,hwx⟩:=hcut
          obtain rfl:=hwx.symm
          go_upto_region 20 with fail
          have hRA:=ret_A HL8.out.rp HL8.out.re (by omega) (.int .i64 P.lsn) (.int .i64 P.kind) (.int .i64 P.level) (.int .i64 P.right) (.string P.high) (.slice ao7 P.items.length cp7) e
          have hRB:=ret_B HL8.out.rp HL8.out.re (by omega) (.int .i64 P.lsn) (.int .i64 P.kind) (.int .i64 P.level) (.int .i64 P.right) (.string P.high) (.slice ao7 P.items.length cp7) e
          have HRA:=hide hRA
          have HRB:=hide hRB
          clear hRA hRB
          obtain ⟨q0,q1,q2,q3,q4,q5,g0,g1,g2,g3,g4,g5,ql⟩:=HL8.out.rp
          obtain ⟨d0,d1,d2,f0,f1,f2,dl⟩:=HL8.out.re
          obtain ⟨x0,x1,x2,_⟩:=HL8.out.x
          have hx1:¬ xb=w.heap.size+1:=by have:=HL8.out.qn; have:=HL8.out.xn; omega
          have hx2:¬ xb=w.heap.size+1+1:=by have:=HL8.out.qn; have:=HL8.out.xn; omega
          have hx3:¬ w.heap.size+1=xb:=by omega
          have hx4:¬ w.heap.size+1+1=xb:=by omega
          obtain ⟨u0,u1,u2,u3,u4,u5,_⟩:=HL8.out.q
          have hy1:¬ qb=w.heap.size+1:=by have:=HL8.out.qn; omega
          have hy2:¬ qb=w.heap.size+1+1:=by have:=HL8.out.qn; omega
          go_region
          all_goals go_wp2_with fail
          all_goals first | (refine bodyPost_ret (results_pe3 rfl rfl rfl (HRA.out.1.more (Only.drew _ _)) (HRA.out.2.1.more (Only.drew _ _))) rfl ?_) | (refine bodyPost_ret (results_pe3 rfl rfl rfl (HRB.out.1.more (Only.drew _ _)) (HRB.out.2.1.more (Only.drew _ _))) rfl ?_)
          all_goals (obtain ⟨rfl,rfl,rfl⟩:=HRES.out)
          all_goals exact ⟨B7,ao7,cp7,rfl,((HFIN.out _ HRA.out.2.2).1).more (Only.drew _ _),HS7.out.2.1,o2 (HFIN.out _ HRA.out.2.2).2.1 (Only.drew _ _),(HFIN.out _ HRA.out.2.2).2.2⟩
end Go.Proofs.YtipkeeobmihogaaGreat
