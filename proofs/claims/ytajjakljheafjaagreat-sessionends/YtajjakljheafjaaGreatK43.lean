/- Parts. -/
import Derived.Test.YtajjakljheafjaaGreatK41
import Derived.Test.YtajjakljheafjaaGreatK39
set_option maxRecDepth 100000
namespace Go.Proofs.YtajjakljheafjaaGreat
open Go.RowKit
theorem SQ.mono {w w':World} {Z:Nat→Prop} {p:Nat} {R R2:Pn→List Value→Bool→Prop} {e:Ending} (h:SQ w Z p R e w') (hR:∀ P cs is,R P cs is→R2 P cs is):SQ w Z p R2 e w':=by
  obtain ⟨Z',P',cs,is,h1,h2,h3,h4,h5⟩:=h
  exact ⟨Z',P',cs,is,h1,h2,h3,h4,hR _ _ _ h5⟩
theorem Nm.kept {S:Nat→Prop} {w w':World} {x:Nd} {B:Nat} {ao:Option Addr} (h:Nm w x B ao) (ho:Only S w w') (hS:0 < x.items.length→¬ S B):Nm w' x B ao:=⟨h.strs.kept ho hS,h.lvl,h.rt,h.ok,h.kok⟩
structure SnOut (V:Vw) (q:Lo) (S:Nat→Prop):Prop where
  a:0 < V.act.length→¬ S q.bA
  r:0 < V.run.length→¬ S q.bR
  p:0 < V.pg.items.length→¬ S q.bP
theorem Sn.kept {S:Nat→Prop} {W W':World} {V:Vw} {q:Lo} (h:Sn W V q) (ho:Only S W W') (hS:SnOut V q S):Sn W' V q:=⟨h.act.kept ho hS.a,h.run.kept ho hS.r,h.pg.kept ho hS.p,h.fit,h.m,h.next,h.own⟩
theorem SnOut.mono {V:Vw} {q:Lo} {S T:Nat→Prop} (h:SnOut V q S) (hT:∀ b,T b→S b):SnOut V q T:=⟨fun k t=>h.a k (hT _ t),fun k t=>h.r k (hT _ t),fun k t=>h.p k (hT _ t)⟩
abbrev vvO (V:Vw) (q:Lo):Vv:=⟨V.m,V.next,q.aA,V.act.length,q.cA,V.own,q.aR,V.run.length,q.cR,V.pg.lsn,V.pg.kind,V.pg.level,V.pg.right,V.pg.high,q.aP,V.pg.items.length,q.cP⟩
abbrev pvN (X:Nd) (a:Int) (ao:Option Addr) (cp:Nat):Pv:=⟨a,3,X.lv,X.rt,hiB X.hi,ao,X.items.length,cp⟩
theorem hits_leaf (w:World) (X:Nd) (a:Int) (Bk cp:Nat) (ao:Option Addr) (hX:Nm w X Bk ao) (ha:0≤a∧a < 9223372036854775808) (hv:X.lv=0) (f t:ByteArray) :
    ∀ W,Only (fun _=>False) w W→Calls Tryz.prog 93 #[.agg (pvN X a ao cp).ar,.string f,.string t] W fun x w'=>HtA W w' x (X.es.filter (hitB f t)) (decide (X.rt≠0) && X.goOn t) 0:=fun W ho=>by
  have e:(pvN X a ao cp).ar=#[.int .i64 a,.int .i64 3,.int .i64 0,.int .i64 X.rt,.string (hiB X.hi),.slice ao X.items.length cp]:=by
    show #[Value.int .i64 a,.int .i64 3,.int .i64 (X.lv:Int),.int .i64 X.rt,.string (hiB X.hi),.slice ao X.items.length cp]=_
    rw [hv]
    rfl
  rw [e]
  exact hits_nd W a X f t Bk cp ao (hX.more ho) ha hv
theorem pg_leaf (w:World) (Z:Nat→Prop) (p:Nat) (P:Pn) (h:Pm w Z p P) (hk:P.wk=3) (hsh:P.sh=some 92) (hth:P.th=some 51) (hs:0≤P.seen∧P.seen≤4096) (hlv:P.lv=0) (hte:P.te.ok=true) (hown:I64 P.own) (hkey:P.key.size≤24)
    (V:Vv) (X:Nd) (a:Int) (Bk cp:Nat) (ao:Option Addr) (hX:Nm w X Bk ao) (ha:0≤a∧a < 9223372036854775808) (hv:X.lv=0) (hhi:X.hi=noE) (hB:0 < X.items.length→¬ Z Bk) (fa:Option Addr) (fn fc:Nat) :
    Calls Tryz.prog 12 #[.pointer (some ⟨p,0,none⟩),.agg V.ar,.agg (pvN X a ao cp).ar,.slice fa fn fc] w (SQ w Z p (fun P' cs is=>is=false∧cs=Hr.none.cl∧∃ A C,(X.es.filter (hitB P.key P.blw)).length≤C∧P'=P.sn.thr A C (X.es.filter (hitB P.key P.blw)) (decide (X.rt≠0) && X.goOn P.blw) X.rt 0)):=by
  refine page_down w Z p P h V (pvN X a ao cp) fa fn fc hk hsh _ (fun W hP ho=>?_)
  have hX1:Nm W X Bk ao:=hX.more ho
  have hlen:(X.es.filter (hitB P.key P.blw)).length≤1000000:=by
    have h1:=List.length_filter_le (hitB P.key P.blw) X.es
    have h2:=hX.few
    rw [Nd.es_len] at h1
    omega
  have hw:=downL_any W Z p P hP V (pvN X a ao cp) fa fn fc hth hs 0 true 0 (fun P' cs is=>is=false∧cs=Hr.none.cl∧∃ A C,(X.es.filter (hitB P.key P.blw)).length≤C∧P'=P.sn.thr A C (X.es.filter (hitB P.key P.blw)) (decide (X.rt≠0) && X.goOn P.blw) X.rt 0)
    (fun W2 ho2=>by
      have hX2:Nm W2 X Bk ao:=hX1.kept ho2 (fun q e=>hB q (by rw [e]; exact hP.zp))
      have:=way_nd W2 a X 0 P.te Bk cp ao hX2 ha hte (Nat.zero_le _)
      rw [show X.way 0 P.te=(0,true) from by unfold Nd.way; rw [hhi,byd_noE,if_neg (by decide),if_pos hv]] at this
      rw [hlv]
      exact this)
    (fun _ _ W2 hP2 ho2=>by
      have hX2:Nm W2 X Bk ao:=hX1.kept ho2 (fun q e=>hB q (by rw [e]; exact hP.zp))
      exact lookThrough_any W2 Z p P.sn hP2 hown V (pvN X a ao cp) fa fn fc hkey _ _ 0 hlen (hits_leaf W2 X a Bk cp ao hX2 ha hv P.sn.key P.sn.blw))
  refine hw.mono (fun e w' q=>q.mono (fun P' cs is r=>?_))
  rcases r with ⟨_,_,r⟩ | ⟨r,_⟩
  · exact r
  · exact absurd ⟨rfl,rfl⟩ r
theorem look_small {k:Int} {l:List ByteArray} {i:Int} {key:ByteArray} {t:Tu} (h:lookL k l i key=some t):I64 t.xmin∧I64 t.xmax:=by
  unfold lookL at h
  cases hv:verL k l i with
  | none=>rw [hv] at h; cases h
  | some t2=>
    rw [hv] at h
    simp only [] at h
    have e:t2=t:=by
      by_cases q:t2.key=key
      · rw [if_pos q] at h; injection h
      · rw [if_neg q] at h; cases h
    subst e
    have hok:t2.ok=true:=by
      unfold verL at hv
      by_cases q:k=2∧0≤i∧i < l.length
      · rw [if_pos q] at hv; exact (enc_decT hv).1
      · rw [if_neg q] at hv; cases hv
    have q:=Tu.ok_iff.1 hok
    unfold I64
    omega
def tpO (o:Option Tu):Tp:=match o with | some t=>⟨t.xmin,t.xmax,t.frozen,t.key,t.value⟩ | none=>⟨0,0,false,⟨#[]⟩,⟨#[]⟩⟩
theorem pg_at (w:World) (Z:Nat→Prop) (p:Nat) (P:Pn) (h:Pm w Z p P) (hk:P.wk=3) (hsh:P.sh=some 135) (hown:I64 P.own) (hl:P.rows.length≤1000) (e:En) (es:List En) (hh:P.hits=e :: es) (hcap:P.hits.length≤P.hc) (hmax:es.length≤1000000)
    (V:Vw) (q:Lo) (hV:Sn w V q) (hVo:SnOut V q Z) (a k v r:Int) (hi:ByteArray) (Bk cp:Nat) (ao:Option Addr) (l:List ByteArray) (hS:Strs w Bk ao l) (hB:0 < l.length→¬ Z Bk) (fa:Option Addr) (fn fc:Nat) :
    Calls Tryz.prog 12 #[.pointer (some ⟨p,0,none⟩),.agg (vvO V q).ar,.agg (Pv.ar ⟨a,k,v,r,hi,ao,l.length,cp⟩),.slice fa fn fc] w (SQ w Z p (fun P' cs is=>is=false∧cs=Hr.none.cl∧∃ a c,P'=P.lat es (vnewer V (tpO (lookL k l e.slot e.key))) (vvis V (tpO (lookL k l e.slot e.key))) e (lookL k l e.slot e.key) a c)):=by
  refine page_at w Z p P h (vvO V q) ⟨a,k,v,r,hi,ao,l.length,cp⟩ fa fn fc hk hsh _ (fun W hP ho=>?_)
  have hzp:∀ b,(fun k=>k=p) b→Z b:=fun b e=>by rw [e]; exact hP.zp
  refine lookAt_any W Z p P hP hown hl hk e es hh hcap hmax (vvO V q) ⟨a,k,v,r,hi,ao,l.length,cp⟩ fa fn fc (lookL k l e.slot e.key) _ _ (fun W2 ho2=>?_) (fun t ht _ W2 ho2=>?_) (fun t ht W2 ho2=>?_)
  · exact look_any W2 a k v r hi Bk cp ao l e.slot e.key ((hS.more ho).kept ho2 (fun q e=>hB q (hzp _ e)))
  · have:=newer_any W2 V q (tpO (lookL k l e.slot e.key)) ((hV.more ho).kept ho2 (hVo.mono hzp)) (by rw [ht]; exact look_small ht)
    rw [ht] at this ⊢
    exact this
  · have:=visible_any W2 V q (tpO (lookL k l e.slot e.key)) ((hV.more ho).kept ho2 (hVo.mono hzp)) (by rw [ht]; exact look_small ht)
    rw [ht] at this ⊢
    exact this
abbrev pA (a k v r:Int) (h:ByteArray) (ao:Option Addr) (n cp:Nat):Value:=.agg #[.int .i64 a,.int .i64 k,.int .i64 v,.int .i64 r,.string h,.slice ao n cp]
set_option maxHeartbeats 1600000 in
theorem entries_no (w:World) (a k v r:Int) (h:ByteArray) (ao:Option Addr) (n cp:Nat) (hb:hdO k v r h=none∨¬ v=0) :
    Calls Tryz.prog 101 #[pA a k v r h ao n cp] w fun x w'=>x=.returned (.tuple #[.slice none 0 0,.int .i64 140])∧Only (fun _=>False) w w':=by
  have HG:=hide (Pag.new w (.int .i64 a) (.int .i64 k) (.int .i64 v) (.int .i64 r) (.string h) (.slice ao n cp))
  have HO:=hide (onlyA w (.cells #[.int .i64 a,.int .i64 k,.int .i64 v,.int .i64 r,.string h,.slice ao n cp] 37))
  have HR:=hide (fun W=>readLeaf_no W a k v r h ao n cp hb)
  clear hb
  unfold pgv at HR
  go_enter Tryz.func101,Tryz.ntmps101
  go_upto_region 1 with fail
  obtain ⟨W0,hW0⟩:=exq (w.alloc (.cells #[.int .i64 a,.int .i64 k,.int .i64 v,.int .i64 r,.string h,.slice ao n cp] 37))
  rw [hW0] at HG HO ⊢
  clear hW0
  obtain ⟨p0,p1,p2,p3,p4,p5,_⟩:=HG.out
  go_wp2_with fail
  refine (HR.out _).mono ?_
  rintro x w1 ⟨⟨a1,n1,c1,a2,n2,c2,H,rfl⟩,ho⟩
  unfold cvv
  have HO1:=hide (o2 HO.out ho)
  clear ho p0 p1 p2 p3 p4 p5 HG HR
  have HA:=hide (onlyA w1 (.cells #[.slice a1 n1 c1,.slice a2 n2 c2,.string H.key,.int .i64 H.page,.int .i64 H.slot] 164))
  go_upto_region 2 with fail
  obtain ⟨w2,hw2⟩:=exq (w1.alloc (.cells #[.slice a1 n1 c1,.slice a2 n2 c2,.string H.key,.int .i64 H.page,.int .i64 H.slot] 164))
  rw [hw2] at HA ⊢
  clear hw2
  go_wp2_with fail
  go_ret2
  exact ⟨rfl,o2 HO1.out HA.out⟩
structure PgA (w:World) (a:Int) (h:ByteArray) (B:Nat) (ao:Option Addr) (l:List ByteArray):Prop where
  strs:Strs w B ao l
  few:l.length≤8796093021952
  high:h.size≤140737488355328
  lsn:a < 9223372036854775808
theorem PgA.more {w w':World} {a:Int} {h:ByteArray} {B:Nat} {ao:Option Addr} {l:List ByteArray} (x:PgA w a h B ao l) (ho:Only (fun _=>False) w w'):PgA w' a h B ao l:=⟨x.strs.more ho,x.few,x.high,x.lsn⟩
theorem PgA.kept {S:Nat→Prop} {w w':World} {a:Int} {h:ByteArray} {B:Nat} {ao:Option Addr} {l:List ByteArray} (x:PgA w a h B ao l) (ho:Only S w w') (hS:0 < l.length→¬ S B):PgA w' a h B ao l:=⟨x.strs.kept ho hS,x.few,x.high,x.lsn⟩
set_option maxHeartbeats 1600000 in
theorem entriesOf_no (w:World) (a k v r:Int) (h:ByteArray) (B cp:Nat) (ao:Option Addr) (l:List ByteArray) (hP:PgA w a h B ao l) (hb:ckB a k v r h l=false∨¬ v=0) :
    Calls Tryz.prog 132 #[pA a k v r h ao l.length cp] w fun x w'=>x=.returned (.tuple #[.slice none 0 0,.int .i64 140])∧Only (fun _=>False) w w':=by
  have HP:=hide (Pag.new w (.int .i64 a) (.int .i64 k) (.int .i64 v) (.int .i64 r) (.string h) (.slice ao l.length cp))
  have HO:=hide (onlyA w (.cells #[.int .i64 a,.int .i64 k,.int .i64 v,.int .i64 r,.string h,.slice ao l.length cp] 37))
  have hCK:=check_any _ a k v r h B cp ao l (hP.strs.more HO.out) hP.few hP.high hP.lsn
  cases hc:ckB a k v r h l
  · rw [hc] at hCK
    have HCK:Hid (Calls Tryz.prog 52 #[.agg #[.int .i64 a,.int .i64 k,.int .i64 v,.int .i64 r,.string h,.slice ao l.length cp]] _ fun x w'=>x=.returned (.int .i64 140)∧Only (fun _=>False) _ w'):=hCK
    obtain ⟨n,hn⟩:=exq (l.length)
    rw [hn] at HP HO HCK ⊢
    clear hn hCK hP hb hc
    go_enter Tryz.func132,Tryz.ntmps132
    go_upto_region 1 with fail
    obtain ⟨W0,hW0⟩:=exq (w.alloc (.cells #[.int .i64 a,.int .i64 k,.int .i64 v,.int .i64 r,.string h,.slice ao n cp] 37))
    rw [hW0] at HP HO HCK ⊢
    clear hW0
    obtain ⟨p0,p1,p2,p3,p4,p5,_⟩:=HP.out
    go_wp2_with fail
    refine HCK.out.mono ?_
    rintro x w1 ⟨rfl,ho⟩
    have HO1:=hide (o2 HO.out ho)
    clear ho p0 p1 p2 p3 p4 p5 HP HO HCK
    go_wp2_with fail
    go_ret2
    exact ⟨rfl,HO1.out⟩
  · rw [hc] at hCK hb
    have hv:¬ v=0:=hb.resolve_left (by decide)
    have HCK:Hid (Calls Tryz.prog 52 #[.agg #[.int .i64 a,.int .i64 k,.int .i64 v,.int .i64 r,.string h,.slice ao l.length cp]] _ fun x w'=>x=.returned (.int .i64 0)∧Only (fun _=>False) _ w'):=hCK
    have HEN:=hide (fun W=>entries_no W a k v r h ao l.length cp (.inr hv))
    obtain ⟨n,hn⟩:=exq (l.length)
    rw [hn] at HP HO HCK HEN ⊢
    clear hn hCK hP hb hc hv
    go_enter Tryz.func132,Tryz.ntmps132
    go_upto_region 1 with fail
    obtain ⟨W0,hW0⟩:=exq (w.alloc (.cells #[.int .i64 a,.int .i64 k,.int .i64 v,.int .i64 r,.string h,.slice ao n cp] 37))
    rw [hW0] at HP HO HCK ⊢
    clear hW0
    obtain ⟨p0,p1,p2,p3,p4,p5,_⟩:=HP.out
    go_wp2_with fail
    refine HCK.out.mono ?_
    rintro x w1 ⟨rfl,ho⟩
    have HP1:=hide (HP.out.more ho)
    have HO1:=hide (o2 HO.out ho)
    clear ho p0 p1 p2 p3 p4 p5 HP HO HCK
    obtain ⟨p0,p1,p2,p3,p4,p5,_⟩:=HP1.out
    go_wp2_with fail
    refine (HEN.out _).mono ?_
    rintro x w2 ⟨rfl,ho⟩
    have HO2:=hide (o2 HO1.out ho)
    clear ho
    go_wp2_with fail
    go_ret2
    exact ⟨rfl,HO2.out⟩
set_option maxHeartbeats 1600000 in
theorem hits_no (w:World) (a k v r:Int) (h:ByteArray) (B cp:Nat) (ao:Option Addr) (l:List ByteArray) (hP:PgA w a h B ao l) (hb:ckB a k v r h l=false∨¬ v=0) (f t:ByteArray) :
    Calls Tryz.prog 93 #[pA a k v r h ao l.length cp,.string f,.string t] w fun x w'=>HtA w w' x [] false 140:=by
  have HP:=hide (Pag.new w (.int .i64 a) (.int .i64 k) (.int .i64 v) (.int .i64 r) (.string h) (.slice ao l.length cp))
  have HO:=hide (onlyA w (.cells #[.int .i64 a,.int .i64 k,.int .i64 v,.int .i64 r,.string h,.slice ao l.length cp] 37))
  have HEN:=hide (entriesOf_no _ a k v r h B cp ao l (hP.more HO.out) hb)
  obtain ⟨n,hn⟩:=exq (l.length)
  rw [hn] at HP HO HEN ⊢
  clear hn hP hb
  go_enter Tryz.func93,Tryz.ntmps93
  go_upto_region 1 with fail
  obtain ⟨W0,hW0⟩:=exq (w.alloc (.cells #[.int .i64 a,.int .i64 k,.int .i64 v,.int .i64 r,.string h,.slice ao n cp] 37))
  rw [hW0] at HP HO HEN ⊢
  clear hW0
  obtain ⟨p0,p1,p2,p3,p4,p5,_⟩:=HP.out
  go_wp2_with fail
  refine HEN.out.mono ?_
  rintro x w1 ⟨rfl,ho⟩
  have HO1:=hide (o2 HO.out ho)
  clear ho p0 p1 p2 p3 p4 p5 HP HO HEN
  go_wp2_with fail
  go_ret3
  exact ⟨none,0,rfl,Ets.nil _ _,HO1.out⟩
set_option maxHeartbeats 1600000 in
theorem way_no (w:World) (a k v r lv:Int) (h:ByteArray) (B cp:Nat) (ao:Option Addr) (l:List ByteArray) (e:En) (hP:PgA w a h B ao l) (hb:ckB a k v r h l=false) :
    Calls Tryz.prog 28 #[pA a k v r h ao l.length cp,.int .i64 lv,.agg #[.string e.key,.int .i64 e.page,.int .i64 e.slot]] w fun x w'=>x=.returned (.tuple #[.int .i64 0,.bool false,.int .i64 140])∧Only (fun _=>False) w w':=by
  have HX:=hide (pe_new w (.int .i64 a) (.int .i64 k) (.int .i64 v) (.int .i64 r) (.string h) (.slice ao l.length cp) e)
  have hCK:=check_any _ a k v r h B cp ao l (hP.strs.more HX.out.2.2) hP.few hP.high hP.lsn
  rw [hb] at hCK
  have HCK:Hid (Calls Tryz.prog 52 #[.agg #[.int .i64 a,.int .i64 k,.int .i64 v,.int .i64 r,.string h,.slice ao l.length cp]] _ fun x w'=>x=.returned (.int .i64 140)∧Only (fun _=>False) _ w'):=hCK
  obtain ⟨n,hn⟩:=exq (l.length)
  rw [hn] at HX HCK ⊢
  clear hn hCK hP hb
  go_enter Tryz.func28,Tryz.ntmps28
  go_upto_region 1 with fail
  obtain ⟨W0,hW0⟩:=exq ((w.alloc (.cells #[.int .i64 a,.int .i64 k,.int .i64 v,.int .i64 r,.string h,.slice ao n cp] 37)).alloc (.cells #[.string e.key,.int .i64 e.page,.int .i64 e.slot] 89))
  rw [hW0] at HX HCK ⊢
  clear hW0
  obtain ⟨p0,p1,p2,p3,p4,p5,_⟩:=HX.out.1
  go_wp2_with fail
  refine HCK.out.mono ?_
  rintro x w1 ⟨rfl,ho⟩
  have HO1:=hide (o2 HX.out.2.2 ho)
  clear ho p0 p1 p2 p3 p4 p5 HX HCK
  go_wp2_with fail
  go_ret3
  exact ⟨rfl,HO1.out⟩
set_option maxHeartbeats 3200000 in
theorem way_gen (T:World→Prop) (hT:∀ W W',T W→Only (fun _=>False) W W'→T W') (a L R lv:Int) (h:ByteArray) (ao:Option Addr) (n cp:Nat) (e:En) (Y:Bool) (EY C EC:Int)
    (hCK:∀ W,T W→Calls Tryz.prog 52 #[.agg #[.int .i64 a,.int .i64 3,.int .i64 L,.int .i64 R,.string h,.slice ao n cp]] W fun x w'=>x=.returned (.int .i64 0)∧Only (fun _=>False) W w')
    (hBY:∀ W,T W→Calls Tryz.prog 53 #[.agg #[.int .i64 a,.int .i64 3,.int .i64 L,.int .i64 R,.string h,.slice ao n cp],.agg #[.string e.key,.int .i64 e.page,.int .i64 e.slot]] W fun x w'=>x=.returned (.tuple #[.bool Y,.int .i64 EY])∧Only (fun _=>False) W w')
    (hCH:0≤lv→lv < L→∀ W,T W→Calls Tryz.prog 54 #[.agg #[.int .i64 a,.int .i64 3,.int .i64 L,.int .i64 R,.string h,.slice ao n cp],.agg #[.string e.key,.int .i64 e.page,.int .i64 e.slot]] W fun x w'=>x=.returned (.tuple #[.int .i64 C,.int .i64 EC])∧Only (fun _=>False) W w') :
    ∃ (nx:Int) (th:Bool) (er:Int),(th=true→0≤lv∧lv=L)∧∀ W,T W→Calls Tryz.prog 28 #[.agg #[.int .i64 a,.int .i64 3,.int .i64 L,.int .i64 R,.string h,.slice ao n cp],.int .i64 lv,.agg #[.string e.key,.int .i64 e.page,.int .i64 e.slot]] W fun x w'=>x=.returned (.tuple #[.int .i64 nx,.bool th,.int .i64 er])∧Only (fun _=>False) W w':=by
  by_cases h1:lv < 0∨L < lv
  · refine ⟨0,false,140,(fun q=>by cases q),fun W ho=>?_⟩
    have HX:=hide (pe_new W (.int .i64 a) (.int .i64 3) (.int .i64 L) (.int .i64 R) (.string h) (.slice ao n cp) e)
    have HCK:Hid (∀ V,Only (fun _=>False) W V→Calls Tryz.prog 52 #[.agg #[.int .i64 a,.int .i64 3,.int .i64 L,.int .i64 R,.string h,.slice ao n cp]] V fun x w'=>x=.returned (.int .i64 0)∧Only (fun _=>False) V w'):=fun V hv=>hCK V (hT W V ho hv)
    clear hBY hCH hCK ho
    have hb:lv < 0∨(¬ lv < 0∧L < lv):=by omega
    clear h1
    go_enter Tryz.func28,Tryz.ntmps28
    go_upto_region 1 with fail
    obtain ⟨W0,hW0⟩:=exq ((W.alloc (.cells #[.int .i64 a,.int .i64 3,.int .i64 L,.int .i64 R,.string h,.slice ao n cp] 37)).alloc (.cells #[.string e.key,.int .i64 e.page,.int .i64 e.slot] 89))
    rw [hW0] at HX ⊢
    clear hW0
    obtain ⟨p0,p1,p2,p3,p4,p5,_⟩:=HX.out.1
    go_wp2_with fail
    refine (HCK.out _ HX.out.2.2).mono ?_
    rintro x w1 ⟨rfl,ho⟩
    have HP1:=hide (HX.out.1.more ho)
    have HO1:=hide (o2 HX.out.2.2 ho)
    clear ho p0 p1 p2 p3 p4 p5 HX HCK
    obtain ⟨p0,p1,p2,p3,p4,p5,_⟩:=HP1.out
    rcases hb with hb | ⟨hb,hb2⟩
    · go_wp2_with fail
      go_ret3
      exact ⟨rfl,HO1.out⟩
    · go_wp2_with fail
      go_ret3
      exact ⟨rfl,HO1.out⟩
  · have hv1:¬ lv < 0:=by omega
    have hv2:¬ L < lv:=by omega
    clear h1
    have key:∀ (nx:Int) (th:Bool) (er:Int),((EY=0∧Y=true∧nx=R∧th=false∧er=0)∨((¬ EY=0∨Y=false)∧((lv=L∧nx=0∧th=true∧er=0)∨(¬ lv=L∧nx=C∧th=false∧er=EC))))→∀ W,T W→Calls Tryz.prog 28 #[.agg #[.int .i64 a,.int .i64 3,.int .i64 L,.int .i64 R,.string h,.slice ao n cp],.int .i64 lv,.agg #[.string e.key,.int .i64 e.page,.int .i64 e.slot]] W fun x w'=>x=.returned (.tuple #[.int .i64 nx,.bool th,.int .i64 er])∧Only (fun _=>False) W w':=fun nx th er hk W ho=>by
      have HX:=hide (pe_new W (.int .i64 a) (.int .i64 3) (.int .i64 L) (.int .i64 R) (.string h) (.slice ao n cp) e)
      have HCK:Hid (∀ V,Only (fun _=>False) W V→Calls Tryz.prog 52 #[.agg #[.int .i64 a,.int .i64 3,.int .i64 L,.int .i64 R,.string h,.slice ao n cp]] V fun x w'=>x=.returned (.int .i64 0)∧Only (fun _=>False) V w'):=fun V hv=>hCK V (hT W V ho hv)
      have HBY:Hid (∀ V,Only (fun _=>False) W V→Calls Tryz.prog 53 #[.agg #[.int .i64 a,.int .i64 3,.int .i64 L,.int .i64 R,.string h,.slice ao n cp],.agg #[.string e.key,.int .i64 e.page,.int .i64 e.slot]] V fun x w'=>x=.returned (.tuple #[.bool Y,.int .i64 EY])∧Only (fun _=>False) V w'):=fun V hv=>hBY V (hT W V ho hv)
      have HCH:Hid (¬ lv=L→∀ V,Only (fun _=>False) W V→Calls Tryz.prog 54 #[.agg #[.int .i64 a,.int .i64 3,.int .i64 L,.int .i64 R,.string h,.slice ao n cp],.agg #[.string e.key,.int .i64 e.page,.int .i64 e.slot]] V fun x w'=>x=.returned (.tuple #[.int .i64 C,.int .i64 EC])∧Only (fun _=>False) V w'):=fun q V hv=>hCH (by omega) (by omega) V (hT W V ho hv)
      have HK:=hide hk
      clear hBY hCH hCK ho hk
      go_enter Tryz.func28,Tryz.ntmps28
      go_upto_region 1 with fail
      obtain ⟨W0,hW0⟩:=exq ((W.alloc (.cells #[.int .i64 a,.int .i64 3,.int .i64 L,.int .i64 R,.string h,.slice ao n cp] 37)).alloc (.cells #[.string e.key,.int .i64 e.page,.int .i64 e.slot] 89))
      rw [hW0] at HX ⊢
      clear hW0
      obtain ⟨p0,p1,p2,p3,p4,p5,_⟩:=HX.out.1
      go_wp2_with fail
      refine (HCK.out _ HX.out.2.2).mono ?_
      rintro x w1 ⟨rfl,ho⟩
      have HP1:=hide (HX.out.1.more ho)
      have HV1:=hide (HX.out.2.1.more ho)
      have HO1:=hide (o2 HX.out.2.2 ho)
      clear ho p0 p1 p2 p3 p4 p5 HX HCK
      obtain ⟨p0,p1,p2,p3,p4,p5,_⟩:=HP1.out
      obtain ⟨d0,d1,d2,_⟩:=HV1.out
      go_wp2_with fail
      refine (HBY.out _ HO1.out).mono ?_
      rintro x w2 ⟨rfl,ho⟩
      have HP2:=hide (HP1.out.more ho)
      have HV2:=hide (HV1.out.more ho)
      have HO2:=hide (o2 HO1.out ho)
      clear ho p0 p1 p2 p3 p4 p5 d0 d1 d2 HP1 HV1 HO1 HBY
      obtain ⟨p0,p1,p2,p3,p4,p5,_⟩:=HP2.out
      obtain ⟨d0,d1,d2,_⟩:=HV2.out
      rcases HK.out with ⟨hy,hy2,rfl,rfl,rfl⟩ | ⟨hy,hk2⟩
      · have hb:(EY == 0)=true:=by simp [hy]
        subst hy2
        clear HK HCH hy
        go_wp2_with fail
        go_ret3
        exact ⟨rfl,HO2.out⟩
      · have hb:(EY == 0)=false∨((EY == 0)=true∧Y=false):=by
          by_cases q:EY=0
          · exact .inr ⟨by simp [q],hy.resolve_left (fun z=>z q)⟩
          · exact .inl (by simpa using q)
        clear HK hy
        rcases hk2 with ⟨hl,rfl,rfl,rfl⟩ | ⟨hl,rfl,rfl,rfl⟩
        · have hb3:(L == lv)=true:=by simp [hl]
          clear HCH hl
          rcases hb with hb | ⟨hb,rfl⟩
          · go_wp2_with fail
            go_ret3
            exact ⟨rfl,HO2.out⟩
          · go_wp2_with fail
            go_ret3
            exact ⟨rfl,HO2.out⟩
        · have hb3:(L == lv)=false:=by simpa using (fun q:L=lv=>hl q.symm)
          have HCC:=hide (HCH.out hl)
          clear HCH hl
          rcases hb with hb | ⟨hb,rfl⟩
          all_goals go_wp2_with fail
          all_goals refine (HCC.out _ HO2.out).mono ?_
          all_goals rintro x w3 ⟨rfl,ho⟩
          all_goals have HO3:=hide (o2 HO2.out ho)
          all_goals clear ho
          all_goals go_wp2_with fail
          all_goals go_ret3
          all_goals exact ⟨rfl,HO3.out⟩
    by_cases hy:EY=0∧Y=true
    · exact ⟨R,false,0,(fun q=>by cases q),key R false 0 (.inl ⟨hy.1,hy.2,rfl,rfl,rfl⟩)⟩
    · have hy2:¬ EY=0∨Y=false:=by
        by_cases q:EY=0
        · refine .inr ?_
          cases Y
          · rfl
          · exact absurd ⟨q,rfl⟩ hy
        · exact .inl q
      by_cases hl:lv=L
      · exact ⟨0,true,0,(fun _=>⟨by omega,hl⟩),key 0 true 0 (.inr ⟨hy2,.inl ⟨hl,rfl,rfl,rfl⟩⟩)⟩
      · exact ⟨C,false,EC,(fun q=>by cases q),key C false EC (.inr ⟨hy2,.inr ⟨hl,rfl,rfl,rfl⟩⟩)⟩
theorem way_all (a:Int) (k v r lv:Int) (h:ByteArray) (B cp:Nat) (ao:Option Addr) (l:List ByteArray) (e:En) (w:World) (hP:PgA w a h B ao l):∃ (nx:Int) (th:Bool) (er:Int),(th=true→0≤lv∧lv≤255) ∧
    ∀ W,PgA W a h B ao l→Calls Tryz.prog 28 #[pA a k v r h ao l.length cp,.int .i64 lv,.agg #[.string e.key,.int .i64 e.page,.int .i64 e.slot]] W fun x w'=>x=.returned (.tuple #[.int .i64 nx,.bool th,.int .i64 er])∧Only (fun _=>False) W w':=by
  cases hb:ckB a k v r h l
  · exact ⟨0,false,140,(fun q=>by cases q),fun W ho=>way_no W a k v r lv h B cp ao l e ho hb⟩
  · obtain ⟨h0,X,hG,rfl,rfl,rfl,rfl,rfl⟩:=ckB_node hb
    have hN:=hG.nm hP.strs
    have hBY:∀ W,PgA W a (hiB X.hi) B ao X.items→Calls Tryz.prog 53 #[.agg #[.int .i64 a,.int .i64 3,.int .i64 X.lv,.int .i64 X.rt,.string (hiB X.hi),.slice ao X.items.length cp],.agg #[.string e.key,.int .i64 e.page,.int .i64 e.slot]] W fun x w'=>x=.returned (.tuple #[.bool (e.ok && byd X.hi e),.int .i64 (if e.ok=true then 0 else 140)])∧Only (fun _=>False) W w':=fun W ho=>by
      have q:=beyond_nd W a X e B cp ao (hG.nm ho.strs)
      unfold byV at q
      cases hk:e.ok
      · rw [hk,if_neg (by decide)] at q
        exact q
      · rw [hk,if_pos rfl] at q
        exact q
    have hCH:0≤lv→lv < (X.lv:Int)→∀ W,PgA W a (hiB X.hi) B ao X.items→Calls Tryz.prog 54 #[.agg #[.int .i64 a,.int .i64 3,.int .i64 X.lv,.int .i64 X.rt,.string (hiB X.hi),.slice ao X.items.length cp],.agg #[.string e.key,.int .i64 e.page,.int .i64 e.slot]] W fun x w'=>x=.returned (.tuple #[.int .i64 (if e.ok=true∧byd X.hi e=false then chE X.ks e else 0),.int .i64 (if e.ok=true∧byd X.hi e=false then 0 else 140)])∧Only (fun _=>False) W w':=fun q1 q2 W ho=>by
      have q:=child_ok W a X.lv X.rt (hiB X.hi) X.hi e B cp ao X.items X.ks ((hG.nm ho.strs).ip (by omega))
      unfold chV at q
      by_cases hc:e.ok=true∧byd X.hi e=false
      · rw [if_pos hc] at q
        rw [if_pos hc,if_pos hc]
        exact q
      · rw [if_neg hc] at q
        rw [if_neg hc,if_neg hc]
        exact q
    obtain ⟨nx,th,er,h1,h2⟩:=way_gen (fun W=>PgA W a (hiB X.hi) B ao X.items) (fun W W' x y=>x.more y) a X.lv X.rt lv (hiB X.hi) ao X.items.length cp e _ _ _ _ (fun W ho=>check_nd W a X B cp ao (hG.nm ho.strs) ⟨h0,hP.lsn⟩) hBY hCH
    refine ⟨nx,th,er,fun q=>?_,h2⟩
    have:=h1 q
    have:=hN.lvl
    omega
theorem ended_no (w:World) (t:Tu) (own:Int) (h:own < 1∨own=t.xmax) :
    Calls Tryz.prog 194 #[t.agg,.int .i64 own] w fun e w'=>e=.returned (.tuple #[.string ⟨#[]⟩,.bool false])∧Only (fun _=>False) w w':=by
  unfold Tu.agg
  have HO:=hide (onlyA w (.cells #[.int .i64 t.xmin,.int .i64 t.xmax,.bool t.frozen,.string t.key,.string t.value] 78))
  have HT:=hide (Tb.new w t)
  by_cases h1:own < 1
  · clear h
    go_enter Tryz.func194,Tryz.ntmps194
    go_wp2_with fail
    go_ret2
    exact ⟨rfl,HO.out⟩
  · have h2:(own == t.xmax)=true:=by simpa using h.resolve_left h1
    clear h
    go_enter Tryz.func194,Tryz.ntmps194
    go_upto_region 1 with fail
    obtain ⟨t0,t1,t2,t3,t4,_⟩:=HT.out
    go_wp2_with fail
    go_ret2
    exact ⟨rfl,HO.out⟩
def MkV (ev:Int) (ok:Bool) (es:Int) (own g slot xm:Int) (R:Hr) (c:Int):Prop :=
  (¬ ev=0∧R=Hr.none∧c=ev)∨(ev=0∧((ok=false∧R=Hr.none∧c=1)∨(ok=true∧((¬ es=0∧R=Hr.none∧c=es)∨(es=0∧R=⟨2,own,g,slot,xm,own,⟨#[]⟩⟩∧c=0)))))
set_option maxHeartbeats 3200000 in
theorem mark_gen (w:World) (a k v r:Int) (h:ByteArray) (ao:Option Addr) (n cp:Nat) (g slot own:Int) (t:Tu) (ev:Int) (S:ByteArray) (ok:Bool) (V es:Int) (R:Hr) (c:Int)
    (hVE:∀ W,Only (fun _=>False) w W→Calls Tryz.prog 179 #[.agg #[.int .i64 a,.int .i64 k,.int .i64 v,.int .i64 r,.string h,.slice ao n cp],.int .i64 slot] W fun e w'=>e=.returned (.tuple #[t.agg,.int .i64 ev])∧Only (fun _=>False) W w')
    (hEN:∀ W,Calls Tryz.prog 194 #[t.agg,.int .i64 own] W fun e w'=>e=.returned (.tuple #[.string S,.bool ok])∧Only (fun _=>False) W w')
    (hSW:ev=0→ok=true→∀ W,Only (fun _=>False) w W→Calls Tryz.prog 107 #[.agg #[.int .i64 a,.int .i64 k,.int .i64 v,.int .i64 r,.string h,.slice ao n cp],.int .i64 slot,.string S] W fun e w'=>e=.returned (.tuple #[.int .i64 V,.int .i64 es])∧Only (fun _=>False) W w')
    (hR:MkV ev ok es own g slot t.xmax R c) :
    Calls Tryz.prog 183 #[pv a k v r h ao n cp,.int .i64 g,.int .i64 slot,.int .i64 own] w fun e w'=>e=.returned (outI R c)∧Only (fun _=>False) w w':=by
  have HM0:=hide (Mst.new w a k v r h ao n cp)
  have HVE:=hide hVE
  have HEN:=hide hEN
  have HSW:=hide hSW
  have HR:=hide hR
  obtain ⟨xa,xb,xc,xd,xe⟩:=t
  unfold Tu.agg at HVE HEN
  simp only at HVE HEN HR ⊢
  clear hVE hEN hSW hR
  go_enter Tryz.func183,Tryz.ntmps183
  go_upto_region 1 with fail
  obtain ⟨W0,hW0⟩:=exq ((w.alloc (.cells #[.int .i64 a,.int .i64 k,.int .i64 v,.int .i64 r,.string h,.slice ao n cp] 37)).alloc (.cells Hr.none.cells 50))
  rw [hW0] at HM0 ⊢
  clear hW0
  obtain ⟨p0,p1,p2,p3,p4,p5,_⟩:=HM0.out.pg
  go_wp2_with fail
  refine (HVE.out _ HM0.out.only).mono ?_
  rintro e w1 ⟨rfl,ho1⟩
  have HM1:=hide ((HM0.out.more ho1).more (onlyA w1 (.cells #[.int .i64 xa,.int .i64 xb,.bool xc,.string xd,.string xe] 78)))
  have HT1:=hide (Tb.new w1 ⟨xa,xb,xc,xd,xe⟩)
  clear ho1 p0 p1 p2 p3 p4 p5
  go_upto_region 2 with fail
  obtain ⟨b,hb⟩:=exq (w1.heap.size)
  obtain ⟨w2,hw2⟩:=exq (w1.alloc (.cells #[.int .i64 xa,.int .i64 xb,.bool xc,.string xd,.string xe] 78))
  rw [hw2] at HM1 ⊢
  have HT2:Hid (Tb w2 b ⟨xa,xb,xc,xd,xe⟩):=by rw [← hw2,← hb]; exact HT1.out
  rw [hb]
  clear hw2 hb HT1
  rcases HR.out with ⟨h1,rfl,rfl⟩ | ⟨h1,hk⟩
  · have hb1:(c != 0)=true:=by simp [h1]
    clear HR h1
    go_upto_region 3 with fail
    go_wp2_with (first | (refine wpList_build_hnone rfl rfl ?_; go_frame) | (refine wpList_put_hr rfl (.tmp 8) (.tmp 24) rfl (w.heap.size+1) rfl Hr.none Hr.none rfl HM1.out.res ?_; intro W9 HW9; go_frame))
    refine bodyPost_ret (results_hr rfl rfl HW9.out.at_) rfl ?_
    exact ⟨rfl,HM1.out.only.trans HW9.out.only (fun i hi e=>by omega)⟩
  · have hb1:(ev != 0)=false:=by simp [h1]
    have HEV:=hide h1
    clear HR h1
    obtain ⟨t0,t1,t2,t3,t4,_⟩:=HT2.out
    simp only at t0 t1 t2 t3 t4
    go_wp2_with fail
    refine (HEN.out _).mono ?_
    rintro e w3 ⟨rfl,ho3⟩
    have HM3:=hide (HM1.out.more ho3)
    have HT3:=hide (HT2.out.more ho3)
    clear ho3 t0 t1 t2 t3 t4
    rcases hk with ⟨rfl,rfl,rfl⟩ | ⟨rfl,hk⟩
    · go_upto_region 6 with fail
      go_wp2_with (first | (refine wpList_build_hnone rfl rfl ?_; go_frame) | (refine wpList_put_hr rfl (.tmp 8) (.tmp 34) rfl (w.heap.size+1) rfl Hr.none Hr.none rfl HM3.out.res ?_; intro W9 HW9; go_frame))
      refine bodyPost_ret (results_hr rfl rfl HW9.out.at_) rfl ?_
      exact ⟨rfl,HM3.out.only.trans HW9.out.only (fun i hi e=>by omega)⟩
    · have HSV:=hide (HSW.out HEV.out rfl)
      obtain ⟨p0,p1,p2,p3,p4,p5,_⟩:=HM3.out.pg
      clear HSW
      go_wp2_with fail
      refine (HSV.out _ HM3.out.only).mono ?_
      rintro e w4 ⟨rfl,ho4⟩
      have HM4:=hide (HM3.out.more ho4)
      have t1:=(HT3.out.more ho4).c1
      simp only at t1
      clear ho4 p0 p1 p2 p3 p4 p5
      rcases hk with ⟨h2,rfl,rfl⟩ | ⟨h2,rfl,rfl⟩
      · have hb2:(c != 0)=true:=by simp [h2]
        clear h2
        go_upto_region 9 with fail
        go_wp2_with (first | (refine wpList_build_hnone rfl rfl ?_; go_frame) | (refine wpList_put_hr rfl (.tmp 8) (.tmp 44) rfl (w.heap.size+1) rfl Hr.none Hr.none rfl HM4.out.res ?_; intro W9 HW9; go_frame))
        refine bodyPost_ret (results_hr rfl rfl HW9.out.at_) rfl ?_
        exact ⟨rfl,HM4.out.only.trans HW9.out.only (fun i hi e=>by omega)⟩
      · have hb2:(es != 0)=false:=by simp [h2]
        clear h2
        go_upto_region 10 with fail
        go_wp2_with (refine wpList_build_mark rfl (.tmp 46) (.tmp 47) (.tmp 48) (.tmp 50) (.tmp 51) rfl own g slot xb own rfl rfl rfl rfl rfl ?_; go_frame; refine wpList_put_hr rfl (.tmp 8) (.tmp 52) rfl (w.heap.size+1) rfl Hr.none ⟨2,own,g,slot,xb,own,⟨#[]⟩⟩ rfl HM4.out.res ?_; intro W9 HW9; go_frame)
        refine bodyPost_ret (results_hr rfl rfl HW9.out.at_) rfl ?_
        exact ⟨rfl,HM4.out.only.trans HW9.out.only (fun i hi e=>by omega)⟩
theorem mark_all (w:World) (a k v r:Int) (h:ByteArray) (B cp:Nat) (ao:Option Addr) (l:List ByteArray) (g slot own:Int) (hS:Strs w B ao l) (hF:Fit ao l.length cp) (hh:h.size≤140737488355328) (ho:-9223372036854775808≤own∧own < 9223372036854775808) :
    ∃ (R:Hr) (c:Int),∀ W,Only (fun _=>False) w W→Calls Tryz.prog 183 #[pv a k v r h ao l.length cp,.int .i64 g,.int .i64 slot,.int .i64 own] W fun e w'=>e=.returned (outI R c)∧Only (fun _=>False) W w':=by
  obtain ⟨t,ht⟩:=exq ((verL k l slot).getD noT)
  obtain ⟨ev,hev⟩:∃ x:Int,(if (verL k l slot).isSome then 0 else 120)=x:=⟨_,rfl⟩
  have hVE:∀ W,Only (fun _=>False) w W→Calls Tryz.prog 179 #[.agg #[.int .i64 a,.int .i64 k,.int .i64 v,.int .i64 r,.string h,.slice ao l.length cp],.int .i64 slot] W fun e w'=>e=.returned (.tuple #[t.agg,.int .i64 ev])∧Only (fun _=>False) W w':=fun W ho=>by
    have q:=version_any W a k v r h B cp ao l slot (hS.more ho)
    unfold outV at q
    rw [ht,hev] at q
    exact q
  have htb:ev=0→t.ok=true:=fun q=>by
    cases hv:verL k l slot with
    | none=>rw [hv] at hev; rw [← hev] at q; exact absurd q (by decide)
    | some u=>
      rw [hv] at ht
      have hu:u=t:=ht
      subst hu
      unfold verL at hv
      split at hv
      · exact (enc_decT hv).1
      · cases hv
  have hsl:ev=0→∃ j:Nat,slot=(j:Int)∧j≤l.length:=fun q=>by
    cases hv:verL k l slot with
    | none=>rw [hv] at hev; rw [← hev] at q; exact absurd q (by decide)
    | some u=>
      unfold verL at hv
      split at hv
      · rename_i hc
        exact ⟨slot.toNat,by omega,by omega⟩
      · cases hv
  by_cases h1:ev=0
  case neg=>
    have hE2:∃ S ok,∀ W,Calls Tryz.prog 194 #[t.agg,.int .i64 own] W fun e w'=>e=.returned (.tuple #[.string S,.bool ok])∧Only (fun _=>False) W w':=by
      by_cases q:own < 1∨own=t.xmax
      · exact ⟨_,_,fun W=>ended_no W t own q⟩
      · refine ⟨_,_,fun W=>ended_ok W t own (fun z=>q (.inl z)) (fun z=>q (.inr z)) ?_ ho⟩
        cases hv:verL k l slot with
        | none=>rw [hv] at ht; rw [← ht]; exact ⟨by decide,by decide⟩
        | some u=>rw [hv] at hev; exact absurd hev.symm h1
    obtain ⟨S,ok,hEN⟩:=hE2
    exact ⟨Hr.none,ev,fun W hw=>mark_gen W a k v r h ao l.length cp g slot own t ev S ok 0 0 Hr.none ev (fun V hv=>hVE V (o2 hw hv)) hEN (fun q=>absurd q h1) (.inl ⟨h1,rfl,rfl⟩)⟩
  case pos=>
    have hok:=htb h1
    have hok':=Tu.ok_iff.1 hok
    obtain ⟨j,rfl,hj⟩:=hsl h1
    by_cases q:own < 1∨own=t.xmax
    · exact ⟨Hr.none,1,fun W hw=>mark_gen W a k v r h ao l.length cp g j own t ev _ _ 0 0 Hr.none 1 (fun V hv=>hVE V (o2 hw hv)) (fun V=>ended_no V t own q) (fun _ z=>by cases z) (.inr ⟨h1,.inl ⟨rfl,rfl,rfl⟩⟩)⟩
    · have hEN:=fun W=>ended_ok W t own (fun z=>q (.inl z)) (fun z=>q (.inr z)) (by omega) ho
      cases hk:(Tu.err ⟨t.xmin,own,t.frozen,t.key,t.value⟩ == 0) with
      | false=>
        rw [hk] at hEN
        exact ⟨Hr.none,1,fun W hw=>mark_gen W a k v r h ao l.length cp g j own t ev _ _ 0 0 Hr.none 1 (fun V hv=>hVE V (o2 hw hv)) hEN (fun _ z=>by cases z) (.inr ⟨h1,.inl ⟨rfl,rfl,rfl⟩⟩)⟩
      | true=>
        rw [hk] at hEN
        have hsz:(str (Tu.out ⟨t.xmin,own,t.frozen,t.key,t.value⟩)).size≤140737488355328:=by
          unfold Tu.out
          cases z:Tu.ok ⟨t.xmin,own,t.frozen,t.key,t.value⟩
          · rw [if_neg (by decide)]; decide
          · rw [if_pos rfl,str_size,enc_lenT z]; simp only; omega
        have hSW:=fun (W:World) (hw:Only (fun _=>False) w W)=>sizeWith_any W a k v r h B cp ao l j (str (Tu.out ⟨t.xmin,own,t.frozen,t.key,t.value⟩)) (hS.more hw) hF hh hsz hj
        by_cases hs:szE h (putL l j (str (Tu.out ⟨t.xmin,own,t.frozen,t.key,t.value⟩)))=0
        · exact ⟨_,0,fun W hw=>mark_gen W a k v r h ao l.length cp g j own t ev _ _ _ _ ⟨2,own,g,j,t.xmax,own,⟨#[]⟩⟩ 0 (fun V hv=>hVE V (o2 hw hv)) hEN (fun _ _ V hv=>hSW V (o2 hw hv)) (.inr ⟨h1,.inr ⟨rfl,.inr ⟨hs,rfl,rfl⟩⟩⟩)⟩
        · exact ⟨Hr.none,_,fun W hw=>mark_gen W a k v r h ao l.length cp g j own t ev _ _ _ _ Hr.none _ (fun V hv=>hVE V (o2 hw hv)) hEN (fun _ _ V hv=>hSW V (o2 hw hv)) (.inr ⟨h1,.inr ⟨rfl,.inl ⟨hs,rfl,rfl⟩⟩⟩)⟩
end Go.Proofs.YtajjakljheafjaaGreat
