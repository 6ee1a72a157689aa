/- Parts. -/
import Derived.Test.YtajjakljheafjaaGreatK42
import Derived.Test.YtajjakljheafjaaGreatK43
set_option maxRecDepth 100000
namespace Go.Proofs.YtajjakljheafjaaGreat
open Go.RowKit
def kA:ByteArray:=⟨#[97]⟩
theorem kA_ne:¬ kA=⟨#[]⟩:=by decide +kernel
def aGet:Aq:=⟨2,kA,⟨#[]⟩,⟨#[]⟩,0⟩
def aDel:Aq:=⟨4,kA,⟨#[]⟩,⟨#[]⟩,0⟩
theorem aGet_ok:aGet.ok 0=true:=by decide +kernel
theorem aDel_ok:aDel.ok 5=true:=by decide +kernel
structure Lk (P:Pn) (c own:Int):Prop where
  wk:P.wk=3
  call:P.call=c
  key:P.key=kA
  own:P.own=own
  found:P.found=false
  err:P.err=0
  val:P.val=⟨#[]⟩
  rows:P.rows=[]
  wp:P.wp=1
  sh:P.sh=some 92
  th:P.th=some 51
  seen:P.seen=0
  lv:P.lv=0
  te:P.te=⟨kA,0,0⟩
theorem lks_Lk {P:Pn} {c own:Int} (h1:P.call=c) (h2:P.key=kA) (h3:P.own=own) (h4:P.found=false) (h5:P.err=0) (h6:P.val=⟨#[]⟩) (h7:P.rows=[]):Lk P.lks c own:=by
  refine ⟨rfl,h1,h2,h3,h4,h5,h6,h7,rfl,rfl,rfl,rfl,rfl,?_⟩
  show (⟨P.frm,0,0⟩:En)=⟨kA,0,0⟩
  unfold Pn.frm
  rw [h2,if_neg kA_ne]
theorem begun_get:Lk (Pn.begun aGet 0) 2 0:=by
  unfold Pn.begun
  rw [if_neg (by decide)]
  exact lks_Lk rfl rfl rfl rfl rfl rfl rfl
theorem begun_del:(Pn.begun aDel 5).wk=1∧(Pn.begun aDel 5).wkey=kA∧(Pn.begun aDel 5).ws=0∧(Pn.begun aDel 5).wp=0:=by
  unfold Pn.begun
  rw [if_pos (by decide)]
  exact ⟨rfl,rfl,rfl,rfl⟩
theorem lock_del:Lk ((Pn.begun aDel 5).lck true 0) 4 5:=by
  unfold Pn.lck
  rw [if_pos begun_del.1,if_pos rfl,if_pos rfl]
  refine lks_Lk ?_ ?_ ?_ ?_ ?_ ?_ ?_ <;> (unfold Pn.begun; rw [if_pos (by decide)]; rfl)
theorem te_ok:(⟨kA,0,0⟩:En).ok=true:=by decide +kernel
theorem hit_A:aX.es.filter (hitB kA (kA++⟨#[0]⟩))=[eA]:=by decide +kernel
structure Lt (P:Pn) (c own:Int):Prop where
  wk:P.wk=3
  call:P.call=c
  own:P.own=own
  found:P.found=false
  err:P.err=0
  val:P.val=⟨#[]⟩
  rows:P.rows=[]
  sh:P.sh=some 135
  hits:P.hits=[eA]
  hc:1≤P.hc
  more:P.more=false
theorem thr_Lt {P:Pn} {c own:Int} (h:Lk P c own) (hc:¬ c=5) {A:Option Addr} {C:Nat} (h1:(aX.es.filter (hitB P.key P.blw)).length≤C):Lt (P.sn.thr A C (aX.es.filter (hitB P.key P.blw)) (decide (aX.rt≠0) && aX.goOn P.blw) aX.rt 0) c own:=by
  have hb:P.blw=kA++⟨#[0]⟩:=by unfold Pn.blw; rw [h.call,if_neg hc,h.key]
  rw [h.key,hb,hit_A] at h1 ⊢
  unfold Pn.thr
  rw [if_pos rfl]
  unfold Pn.lko
  exact ⟨rfl,h.call,h.own,h.found,h.err,h.val,h.rows,rfl,rfl,h1,rfl⟩
theorem look_A:lookL 2 [aS] eA.slot eA.key=some aT:=by
  unfold lookL
  rw [show eA.slot=((0:Nat):Int) from rfl,verL_at (l:=[aS]) (j:=0) (by decide)]
  show (match decT (bl aS) with | some t=>if t.key=eA.key then some t else none | none=>none)=some aT
  rw [aT_dec]
  exact if_pos rfl
theorem lat_get {P:Pn} (h:Lt P 2 0) (a:Option Addr) (c:Nat):P.lat [] (vnewer aV (tpO (lookL 2 [aS] eA.slot eA.key))) (vvis aV (tpO (lookL 2 [aS] eA.slot eA.key))) eA (lookL 2 [aS] eA.slot eA.key) a c=Pn.over 0 true ⟨#[120]⟩ none [] 0:=by
  rw [look_A,show tpO (some aT)=aTp from rfl,a_vis,a_new]
  have e:P.lat0 [] false true eA (some aT) a c=Pn.over 0 true ⟨#[120]⟩ none [] 0:=by
    show (P.tl []).jdg false true eA aT a c=_
    unfold Pn.jdg
    rw [if_neg (fun q=>by cases q.2),if_pos rfl,if_pos (show (P.tl []).call=2 from h.call)]
    rfl
  unfold Pn.lat
  rw [e]
  exact if_pos rfl
structure Mk (P:Pn):Prop where
  wk:P.wk=3
  call:P.call=4
  own:P.own=5
  found:P.found=true
  err:P.err=0
  val:P.val=⟨#[]⟩
  rows:P.rows=[]
  sh:P.sh=some 164
  wp:P.wp=2
  slot:P.old.slot=0
theorem lat_del {P:Pn} (h:Lt P 4 5) (a:Option Addr) (c:Nat):Mk (P.lat [] (vnewer aV (tpO (lookL 2 [aS] eA.slot eA.key))) (vvis aV (tpO (lookL 2 [aS] eA.slot eA.key))) eA (lookL 2 [aS] eA.slot eA.key) a c):=by
  rw [look_A,show tpO (some aT)=aTp from rfl,a_vis,a_new]
  have e:P.lat0 [] false true eA (some aT) a c={ P.tl [] with old:=eA,found:=true }:=by
    show (P.tl []).jdg false true eA aT a c=_
    have hc:(P.tl []).call=4:=h.call
    unfold Pn.jdg
    rw [if_neg (fun q=>by cases q.2),if_pos rfl,if_neg (by rw [hc]; decide),if_neg (by rw [hc]; decide)]
  unfold Pn.lat
  rw [e,if_neg (by show ¬ P.wk=4; rw [h.wk]; decide)]
  unfold Pn.lko
  show Mk (if P.more=true then _ else _)
  rw [h.more,if_neg (by decide)]
  unfold Pn.lkd
  rw [if_pos (show ({ P.tl [] with old:=eA,found:=true }:Pn).chg=true from by unfold Pn.chg; show (P.call == 3 || P.call == 4)=true; rw [h.call]; rfl),if_pos rfl]
  exact ⟨rfl,h.call,h.own,rfl,h.err,h.val,h.rows,rfl,rfl,rfl⟩
theorem gon_del {P:Pn} (h:Mk P):P.gon=Pn.over 0 true ⟨#[]⟩ P.ra [] P.rc:=by
  unfold Pn.gon
  rw [if_pos h.call]
  unfold Pn.fin
  rw [h.err,h.found,h.val,h.rows]
theorem fit_A:fitL ⟨#[]⟩ (putL [aS] 0 (str (Tu.enc ⟨aT.xmin,5,aT.frozen,aT.key,aT.value⟩)))=true:=by decide +kernel
structure Dat (W:World) (n b1 b2 b3 BL:Nat) (aL:Option Addr) (cL BH:Nat) (aH:Option Addr) (cH:Nat) (q:Lo):Prop where
  l:Cb W b1 [.int .i64 0,.int .i64 3,.int .i64 0,.int .i64 0,.string ⟨#[]⟩,.slice aL 1 cL]
  h:Cb W b2 [.int .i64 0,.int .i64 2,.int .i64 0,.int .i64 0,.string ⟨#[]⟩,.slice aH 1 cH]
  v:Cb W b3 [.int .i64 16,.int .i64 5,.slice q.aA 0 q.cA,.int .i64 5,.slice q.aR 1 q.cR,.int .i64 0,.int .i64 1,.int .i64 0,.int .i64 0,.string ⟨#[]⟩,.slice q.aP 2 q.cP]
  sl:Strs W BL aL [eA.enc]
  sh:Strs W BH aH [aS]
  fit:Fit aH 1 cH
  sn:Sn W aV q
  low:b1 < n∧b2 < n∧b3 < n∧BL < n∧BH < n∧q.bR < n∧q.bP < n
variable {W W' w0:World} {n b1 b2 b3 BL cL BH cH x y:Nat} {aL aH:Option Addr} {q:Lo}
theorem Dat.out (h:Dat W n b1 b2 b3 BL aL cL BH aH cH q) {S:Nat→Prop} (hS:∀ b,S b→n≤b):SnOut aV q S :=
  ⟨fun k=>absurd k (by simp [aV]),fun _ e=>by have:=hS _ e; have:=h.low; omega,fun _ e=>by have:=hS _ e; have:=h.low; omega⟩
theorem Dat.kept (h:Dat W n b1 b2 b3 BL aL cL BH aH cH q) {S:Nat→Prop} (ho:Only S W W') (hS:∀ b,S b→n≤b):Dat W' n b1 b2 b3 BL aL cL BH aH cH q:=by
  have hl:=h.low
  exact ⟨h.l.kept ho (fun e=>by have:=hS _ e; omega),h.h.kept ho (fun e=>by have:=hS _ e; omega),h.v.kept ho (fun e=>by have:=hS _ e; omega),h.sl.kept ho (fun _ e=>by have:=hS _ e; omega),h.sh.kept ho (fun _ e=>by have:=hS _ e; omega),h.fit,h.sn.kept ho (h.out hS),hl⟩
theorem Dat.leaf (h:Dat W n b1 b2 b3 BL aL cL BH aH cH q):Nm W aX BL aL:=aX_gd.nm h.sl
structure Tw (w0 W:World) (n x y:Nat) (Zx Zy:Nat→Prop) (Px Py:Pn):Prop where
  hx:Pm W Zx x Px
  hy:Pm W Zy y Py
  dj:∀ b,Zx b→¬ Zy b
  lx:∀ b,Zx b→n≤b
  ly:∀ b,Zy b→n≤b
  only:Only (fun _=>False) w0 W
  n0:w0.heap.size≤n
  nW:n≤W.heap.size
variable {Zx Zy:Nat→Prop} {Px Py:Pn}
theorem Tw.more (h:Tw w0 W n x y Zx Zy Px Py) (ho:Only (fun _=>False) W W'):Tw w0 W' n x y Zx Zy Px Py:=⟨h.hx.more ho,h.hy.more ho,h.dj,h.lx,h.ly,o2 h.only ho,h.n0,Nat.le_trans h.nW ho.size⟩
theorem Tw.stepx (h:Tw w0 W n x y Zx Zy Px Py) {R:Pn→List Value→Bool→Prop} {e:Ending} (hq:SQ W Zx x R e W'):∃ Z' P' cs is,Rt e cs is∧R P' cs is∧Tw w0 W' n x y Z' Zy P' Py∧Only Zx W W':=by
  obtain ⟨Z',P',cs,is,h1,h2,h3,h4,h5⟩:=hq
  have hc:∀ b,Z' b→(b < W.heap.size∧Zx b)∨W.heap.size≤b:=fun b hb=>by
    by_cases k:b < W.heap.size
    · exact .inl ⟨k,h2 b k hb⟩
    · exact .inr (by omega)
  refine ⟨Z',P',cs,is,h1,h5,⟨h3,h.hy.kept h4 (fun k hk e=>h.dj k e hk),fun b hb hy=>?_,fun b hb=>?_,h.ly,h.only.trans h4 (fun i hi e=>by have:=h.lx i e; have:=h.n0; omega),h.n0,Nat.le_trans h.nW h4.size⟩,h4⟩
  · rcases hc b hb with ⟨_,k⟩ | k
    · exact h.dj b k hy
    · have:=h.hy.zlt b hy; omega
  · rcases hc b hb with ⟨_,k⟩ | k
    · exact h.lx b k
    · have:=h.nW; omega
theorem Tw.swap (h:Tw w0 W n x y Zx Zy Px Py):Tw w0 W n y x Zy Zx Py Px:=⟨h.hy,h.hx,fun b hb k=>h.dj b k hb,h.ly,h.lx,h.only,h.n0,h.nW⟩
theorem Tw.stepy (h:Tw w0 W n x y Zx Zy Px Py) {R:Pn→List Value→Bool→Prop} {e:Ending} (hq:SQ W Zy y R e W'):∃ Z' P' cs is,Rt e cs is∧R P' cs is∧Tw w0 W' n x y Zx Z' Px P'∧Only Zy W W':=by
  obtain ⟨Z',P',cs,is,h1,h2,h3,h4⟩:=h.swap.stepx hq
  exact ⟨Z',P',cs,is,h1,h2,h3.swap,h4⟩
theorem Tw.ymod (h:Tw w0 W n x y Zx Zy Px Py) {P':Pn} (hp:Pm W' Zy y P') (ho:Only (fun k=>k=y) W W'):Tw w0 W' n x y Zx Zy Px P' :=
  ⟨h.hx.kept ho (fun k hk e=>h.dj k hk (by rw [e]; exact h.hy.zp)),hp,h.dj,h.lx,h.ly,h.only.trans ho (fun i hi e=>by have:=h.ly y h.hy.zp; have:=h.n0; omega),h.n0,Nat.le_trans h.nW ho.size⟩
variable {W:World} {n b1 b2 b3 BL cL BH cH p:Nat} {aL aH:Option Addr} {q:Lo} {Z:Nat→Prop} {P:Pn}
abbrev vwL (q:Lo):Value:=.agg #[.int .i64 16,.int .i64 5,.slice q.aA 0 q.cA,.int .i64 5,.slice q.aR 1 q.cR,.int .i64 0,.int .i64 1,.int .i64 0,.int .i64 0,.string ⟨#[]⟩,.slice q.aP 2 q.cP]
theorem aw_leaf (D:Dat W n b1 b2 b3 BL aL cL BH aH cH q) (h:Pm W Z p P) (hl:∀ b,Z b→n≤b) {c own:Int} (hL:Lk P c own) (hc:¬ c=5) (ho:I64 own) :
    Calls Tryz.prog 12 #[.pointer (some ⟨p,0,none⟩),vwL q,.agg #[.int .i64 0,.int .i64 3,.int .i64 0,.int .i64 0,.string ⟨#[]⟩,.slice aL 1 cL],.slice none 0 0] W (SQ W Z p (fun P' cs is=>is=false∧cs=Hr.none.cl∧Lt P' c own)):=by
  have hq:=pg_leaf W Z p P h hL.wk hL.sh hL.th (by rw [hL.seen]; decide) hL.lv (by rw [hL.te]; exact te_ok) (by rw [hL.own]; exact ho) (by rw [hL.key]; decide) (vvO aV q) aX 0 BL cL aL D.leaf (by decide) rfl rfl (fun _ e=>by have:=hl _ e; have:=D.low; omega) none 0 0
  refine Calls.mono (hq:Calls Tryz.prog 12 #[.pointer (some ⟨p,0,none⟩),vwL q,.agg #[.int .i64 0,.int .i64 3,.int .i64 0,.int .i64 0,.string ⟨#[]⟩,.slice aL 1 cL],.slice none 0 0] W _) (fun e w' k=>k.mono (fun P' cs is r=>?_))
  obtain ⟨r1,r2,A,C,r3,rfl⟩:=r
  exact ⟨r1,r2,thr_Lt hL hc r3⟩
theorem aw_at (D:Dat W n b1 b2 b3 BL aL cL BH aH cH q) (h:Pm W Z p P) (hl:∀ b,Z b→n≤b) {c own:Int} (hL:Lt P c own) (ho:I64 own) :
    Calls Tryz.prog 12 #[.pointer (some ⟨p,0,none⟩),vwL q,.agg #[.int .i64 0,.int .i64 2,.int .i64 0,.int .i64 0,.string ⟨#[]⟩,.slice aH 1 cH],.slice none 0 0] W (SQ W Z p (fun P' cs is=>is=false∧cs=Hr.none.cl∧∃ a cc,P'=P.lat [] (vnewer aV (tpO (lookL 2 [aS] eA.slot eA.key))) (vvis aV (tpO (lookL 2 [aS] eA.slot eA.key))) eA (lookL 2 [aS] eA.slot eA.key) a cc)) :=
  pg_at W Z p P h hL.wk hL.sh (by rw [hL.own]; exact ho) (by rw [hL.rows]; decide) eA [] hL.hits (by rw [hL.hits]; exact hL.hc) (by decide) aV q D.sn (D.out hl) 0 2 0 0 ⟨#[]⟩ BH cH aH [aS] D.sh (fun _ e=>by have:=hl _ e; have:=D.low; omega) none 0 0
theorem aw_get (D:Dat W n b1 b2 b3 BL aL cL BH aH cH q) (h:Pm W Z p P) (hl:∀ b,Z b→n≤b) (hL:Lt P 2 0) :
    Calls Tryz.prog 12 #[.pointer (some ⟨p,0,none⟩),vwL q,.agg #[.int .i64 0,.int .i64 2,.int .i64 0,.int .i64 0,.string ⟨#[]⟩,.slice aH 1 cH],.slice none 0 0] W (SQ W Z p (fun P' _ _=>P'=Pn.over 0 true ⟨#[120]⟩ none [] 0)) :=
  (aw_at D h hl hL ⟨by decide,by decide⟩).mono (fun e w' k=>k.mono (fun P' cs is r=>by
    obtain ⟨_,_,a,cc,rfl⟩:=r
    exact lat_get hL a cc))
theorem aw_del (D:Dat W n b1 b2 b3 BL aL cL BH aH cH q) (h:Pm W Z p P) (hl:∀ b,Z b→n≤b) (hL:Lt P 4 5) :
    Calls Tryz.prog 12 #[.pointer (some ⟨p,0,none⟩),vwL q,.agg #[.int .i64 0,.int .i64 2,.int .i64 0,.int .i64 0,.string ⟨#[]⟩,.slice aH 1 cH],.slice none 0 0] W (SQ W Z p (fun P' _ _=>Mk P')) :=
  (aw_at D h hl hL ⟨by decide,by decide⟩).mono (fun e w' k=>k.mono (fun P' cs is r=>by
    obtain ⟨_,_,a,cc,rfl⟩:=r
    exact lat_del hL a cc))
theorem aw_mark (D:Dat W n b1 b2 b3 BL aL cL BH aH cH q) (h:Pm W Z p P) (hM:Mk P) :
    Calls Tryz.prog 12 #[.pointer (some ⟨p,0,none⟩),vwL q,.agg #[.int .i64 0,.int .i64 2,.int .i64 0,.int .i64 0,.string ⟨#[]⟩,.slice aH 1 cH],.slice none 0 0] W (SQ W Z p (fun P' cs is=>is=true∧cs=Hr.cl ⟨2,5,2,0,0,5,⟨#[]⟩⟩∧∃ a c,P'=Pn.over 0 true ⟨#[]⟩ a [] c)):=by
  have hown:I64 P.own:=by rw [hM.own]; exact ⟨by decide,by decide⟩
  have hq:=page_mark W Z p P h (vvO aV q) ⟨0,2,0,0,⟨#[]⟩,aH,1,cH⟩ none 0 0 hM.wk hM.sh (fun P' cs is=>is=true∧cs=Hr.cl ⟨2,5,2,0,0,5,⟨#[]⟩⟩∧∃ a c,P'=Pn.over 0 true ⟨#[]⟩ a [] c)
    (fun W1 hP1 ho1=>(mark_step W1 Z p P hP1 hown (vvO aV q) ⟨0,2,0,0,⟨#[]⟩,aH,1,cH⟩ none 0 0 ⟨2,5,2,0,0,5,⟨#[]⟩⟩ 0 (fun W2 ho2=>by
      have:=mark_ok W2 0 0 0 ⟨#[]⟩ BH cH aH [aS] 0 aT 2 5 ((D.sh.more ho1).more ho2) D.fit (by decide) (by decide) aT_dec (by decide) (by decide) (by decide) fit_A
      rw [hM.wp,hM.slot,hM.own]
      exact this)).mono (fun e w' k=>k.mono (fun P' cs is r=>by
        rw [if_pos rfl] at r
        exact ⟨r.2.1,r.2.2,P.ra,P.rc,by rw [r.1]; exact gon_del hM⟩)))
  exact hq
set_option maxHeartbeats 6400000 in
theorem lwawake_any (w:World):Calls Tryz.prog 8 #[] w fun e w'=>e=.returned (.bool true)∧Only (fun _=>False) w w':=by
  have HNG:Hid (∀ W,Calls Tryz.prog 9 #[.agg #[.int .u8 2,.string ⟨#[97]⟩,.string ⟨#[]⟩,.string ⟨#[]⟩,.int .i64 0],.int .i64 0] W fun e w'=>NwR W w' e (Pn.begun aGet 0)):=fun W=>New_ok W aGet 0 aGet_ok
  have HND:Hid (∀ W,Calls Tryz.prog 9 #[.agg #[.int .u8 4,.string ⟨#[97]⟩,.string ⟨#[]⟩,.string ⟨#[]⟩,.int .i64 0],.int .i64 5] W fun e w'=>NwR W w' e (Pn.begun aDel 5)):=fun W=>New_ok W aDel 5 aDel_ok
  have HQG:=hide begun_get
  have HQD:=hide begun_del
  have HQL:=hide lock_del
  obtain ⟨PG,hPG⟩:=exq (Pn.begun aGet 0)
  obtain ⟨PD,hPD⟩:=exq (Pn.begun aDel 5)
  rw [hPG] at HNG HQG
  rw [hPD] at HND HQD HQL
  clear hPG hPD
  go_enter Tryz.func8,Tryz.ntmps8
  go_wp2_with fail
  refine (small_any w).mono ?_
  rintro e w1 ⟨BL,aL,cL,BH,aH,cH,q,rfl,hL,hH,hF,hS,ho⟩
  have HL:=hide hL
  have HH:=hide hH
  have HF:=hide hF
  have HS:=hide hS
  have HO:=hide ho
  clear hL hH hF hS ho
  go_upto_region 2 with fail
  have h1:=Cb.new w1 [.int .i64 0,.int .i64 3,.int .i64 0,.int .i64 0,.string ⟨#[]⟩,.slice aL 1 cL] 37
  have h2:=Cb.new (w1.alloc (.cells #[.int .i64 0,.int .i64 3,.int .i64 0,.int .i64 0,.string ⟨#[]⟩,.slice aL 1 cL] 37)) [.int .i64 0,.int .i64 2,.int .i64 0,.int .i64 0,.string ⟨#[]⟩,.slice aH 1 cH] 37
  have h3:=Cb.new ((w1.alloc (.cells #[.int .i64 0,.int .i64 3,.int .i64 0,.int .i64 0,.string ⟨#[]⟩,.slice aL 1 cL] 37)).alloc (.cells #[.int .i64 0,.int .i64 2,.int .i64 0,.int .i64 0,.string ⟨#[]⟩,.slice aH 1 cH] 37)) [.int .i64 16,.int .i64 5,.slice q.aA 0 q.cA,.int .i64 5,.slice q.aR 1 q.cR,.int .i64 0,.int .i64 1,.int .i64 0,.int .i64 0,.string ⟨#[]⟩,.slice q.aP 2 q.cP] 42
  rw [World.size_alloc] at h2
  rw [World.size_alloc,World.size_alloc] at h3
  have H1:=hide ((h1.more (onlyA _ (.cells #[.int .i64 0,.int .i64 2,.int .i64 0,.int .i64 0,.string ⟨#[]⟩,.slice aH 1 cH] 37))).more (onlyA _ (.cells #[.int .i64 16,.int .i64 5,.slice q.aA 0 q.cA,.int .i64 5,.slice q.aR 1 q.cR,.int .i64 0,.int .i64 1,.int .i64 0,.int .i64 0,.string ⟨#[]⟩,.slice q.aP 2 q.cP] 42)))
  have H2:=hide (h2.more (onlyA _ (.cells #[.int .i64 16,.int .i64 5,.slice q.aA 0 q.cA,.int .i64 5,.slice q.aR 1 q.cR,.int .i64 0,.int .i64 1,.int .i64 0,.int .i64 0,.string ⟨#[]⟩,.slice q.aP 2 q.cP] 42)))
  have H3:=hide h3
  have HX:=hide (o2 (o2 (onlyA w1 (.cells #[.int .i64 0,.int .i64 3,.int .i64 0,.int .i64 0,.string ⟨#[]⟩,.slice aL 1 cL] 37)) (onlyA _ (.cells #[.int .i64 0,.int .i64 2,.int .i64 0,.int .i64 0,.string ⟨#[]⟩,.slice aH 1 cH] 37))) (onlyA _ (.cells #[.int .i64 16,.int .i64 5,.slice q.aA 0 q.cA,.int .i64 5,.slice q.aR 1 q.cR,.int .i64 0,.int .i64 1,.int .i64 0,.int .i64 0,.string ⟨#[]⟩,.slice q.aP 2 q.cP] 42)))
  clear h1 h2 h3
  obtain ⟨w2,hw2⟩:=exq (((w1.alloc (.cells #[.int .i64 0,.int .i64 3,.int .i64 0,.int .i64 0,.string ⟨#[]⟩,.slice aL 1 cL] 37)).alloc (.cells #[.int .i64 0,.int .i64 2,.int .i64 0,.int .i64 0,.string ⟨#[]⟩,.slice aH 1 cH] 37)).alloc (.cells #[.int .i64 16,.int .i64 5,.slice q.aA 0 q.cA,.int .i64 5,.slice q.aR 1 q.cR,.int .i64 0,.int .i64 1,.int .i64 0,.int .i64 0,.string ⟨#[]⟩,.slice q.aP 2 q.cP] 42))
  have H1:Hid (Cb w2 w1.heap.size [.int .i64 0,.int .i64 3,.int .i64 0,.int .i64 0,.string ⟨#[]⟩,.slice aL 1 cL]):=by rw [← hw2]; exact H1.out
  have H2:Hid (Cb w2 (w1.heap.size+1) [.int .i64 0,.int .i64 2,.int .i64 0,.int .i64 0,.string ⟨#[]⟩,.slice aH 1 cH]):=by rw [← hw2]; exact H2.out
  have H3:Hid (Cb w2 (w1.heap.size+1+1) [.int .i64 16,.int .i64 5,.slice q.aA 0 q.cA,.int .i64 5,.slice q.aR 1 q.cR,.int .i64 0,.int .i64 1,.int .i64 0,.int .i64 0,.string ⟨#[]⟩,.slice q.aP 2 q.cP]):=by rw [← hw2]; exact H3.out
  rw [hw2] at HX ⊢
  clear hw2
  have HD0:Hid (Dat w2 w2.heap.size w1.heap.size (w1.heap.size+1) (w1.heap.size+1+1) BL aL cL BH aH cH q) :=
    ⟨H1.out,H2.out,H3.out,HL.out.more HX.out,HH.out.more HX.out,HF.out,HS.out.more HX.out,by
      have h1:=H1.out.lt
      have h2:=H2.out.lt
      have h3:=H3.out.lt
      have h4:=(HL.out.more HX.out).lt (by simp)
      have h5:=(HH.out.more HX.out).lt (by simp)
      have h6:=(HS.out.more HX.out).run.lt (by simp [aV])
      have h7:=(HS.out.more HX.out).pg.lt (by simp [aV,aP])
      exact ⟨h1,h2,h3,h4,h5,h6,h7⟩⟩
  have HO2:=hide (o2 HO.out HX.out)
  clear H1 H2 H3 HL HH HF HS HX HO
  obtain ⟨n,hn⟩:=exq (w2.heap.size)
  obtain ⟨c1,hc1⟩:=exq (w1.heap.size)
  rw [hn,hc1] at HD0
  rw [hc1]
  have HN:=hide hn
  clear hn hc1
  go_wp2_with fail
  refine (HNG.out _).mono ?_
  rintro e w3 ⟨x,hxn,rfl,hp,ho⟩
  have HPX:=hide hp
  have HXN:=hide hxn
  have HX3:=hide ho
  clear hp hxn ho HNG
  go_wp2_with fail
  refine (HND.out _).mono ?_
  rintro e w4 ⟨y,hyn,rfl,hp,ho⟩
  have HT4:Hid (Tw w w4 n x y (fun k=>k=x) (fun k=>k=y) PG PD):=by
    have hlx:=HPX.out.zlt x rfl
    have hxn:=HXN.out
    have hN:=HN.out
    have hs:=HX3.out.size
    exact ⟨HPX.out.more ho,hp,fun b hb hc=>by omega,fun b hb=>by omega,fun b hb=>by omega,o2 (o2 HO2.out HX3.out) ho,by have:=HO2.out.size; omega,by have:=ho.size; omega⟩
  have HD4:=hide (HD0.out.kept (o2 HX3.out ho) (fun _ e=>e.elim))
  clear hp hyn ho HND HPX HXN HX3 HD0 HO2 HN
  have HWX:=hide (fun W (h:Pm W (fun k=>k=x) x PG)=>Want_any W _ x PG h)
  have HWY:=hide (fun W (h:Pm W (fun k=>k=y) y PD)=>Want_any W _ y PD h)
  unfold Pn.want at HWX HWY
  rw [HQG.out.wk,HQG.out.wp] at HWX
  rw [HQD.out.1,HQD.out.2.1,HQD.out.2.2.1,HQD.out.2.2.2] at HWY
  obtain ⟨s1,hs1⟩:=exq (PG.wkey)
  obtain ⟨s2,hs2⟩:=exq (PG.ws)
  rw [hs1,hs2] at HWX
  clear hs1 hs2
  have hfx:∀ W:World,(Instr.field 32 (.agg #[.int .i64 3,.string s1,.int .i64 s2,.int .i64 1]) 3).run Tryz.prog W=.ok (.int .i64 1) W:=fun _=>by kernel_rfl
  have hfy:∀ W:World,(Instr.field 32 (.agg #[.int .i64 1,.string kA,.int .i64 0,.int .i64 0]) 0).run Tryz.prog W=.ok (.int .i64 1) W:=fun _=>by kernel_rfl
  go_wp2_with fail
  refine (HWX.out _ HT4.out.hx).mono ?_
  rintro e w5 ⟨rfl,ho⟩
  have HT5:=hide (HT4.out.more ho)
  have HD5:=hide (HD4.out.kept ho (fun _ e=>e.elim))
  clear ho HT4 HD4 HWX
  go_wp2_with fail
  refine (HWY.out _ HT5.out.hy).mono ?_
  rintro e w6 ⟨rfl,ho⟩
  have HT6:=hide (HT5.out.more ho)
  have HD6:=hide (HD5.out.kept ho (fun _ e=>e.elim))
  clear ho HT5 HD5 HWY
  have l0:=HD6.out.l.c 0 _ rfl
  have l1:=HD6.out.l.c 1 _ rfl
  have l2:=HD6.out.l.c 2 _ rfl
  have l3:=HD6.out.l.c 3 _ rfl
  have l4:=HD6.out.l.c 4 _ rfl
  have l5:=HD6.out.l.c 5 _ rfl
  have v0:=HD6.out.v.c 0 _ rfl
  have v1:=HD6.out.v.c 1 _ rfl
  have v2:=HD6.out.v.c 2 _ rfl
  have v3:=HD6.out.v.c 3 _ rfl
  have v4:=HD6.out.v.c 4 _ rfl
  have v5:=HD6.out.v.c 5 _ rfl
  have v6:=HD6.out.v.c 6 _ rfl
  have v7:=HD6.out.v.c 7 _ rfl
  have v8:=HD6.out.v.c 8 _ rfl
  have v9:=HD6.out.v.c 9 _ rfl
  have v10:=HD6.out.v.c 10 _ rfl
  have HC:=hide (aw_leaf HD6.out HT6.out.hx HT6.out.lx HQG.out (by decide) ⟨by decide,by decide⟩)
  go_wp2_with fail
  refine HC.out.mono ?_
  rintro e w7 hq
  obtain ⟨Z6,P6,cs6,is6,⟨rfl,hcs,hone⟩,hR,hT,ho⟩:=HT6.out.stepx hq
  have HR6:=hide hR.2.2
  clear hR hcs hone
  have HT7:=hide hT
  have HD7:=hide (HD6.out.kept ho HT6.out.lx)
  clear hq hT ho HC HD6 HT6 l0 l1 l2 l3 l4 l5 v0 v1 v2 v3 v4 v5 v6 v7 v8 v9 v10
  have u0:=HD7.out.h.c 0 _ rfl
  have u1:=HD7.out.h.c 1 _ rfl
  have u2:=HD7.out.h.c 2 _ rfl
  have u3:=HD7.out.h.c 3 _ rfl
  have u4:=HD7.out.h.c 4 _ rfl
  have u5:=HD7.out.h.c 5 _ rfl
  have v0:=HD7.out.v.c 0 _ rfl
  have v1:=HD7.out.v.c 1 _ rfl
  have v2:=HD7.out.v.c 2 _ rfl
  have v3:=HD7.out.v.c 3 _ rfl
  have v4:=HD7.out.v.c 4 _ rfl
  have v5:=HD7.out.v.c 5 _ rfl
  have v6:=HD7.out.v.c 6 _ rfl
  have v7:=HD7.out.v.c 7 _ rfl
  have v8:=HD7.out.v.c 8 _ rfl
  have v9:=HD7.out.v.c 9 _ rfl
  have v10:=HD7.out.v.c 10 _ rfl
  have HC:=hide (aw_get HD7.out HT7.out.hx HT7.out.lx HR6.out)
  go_wp2_with fail
  refine HC.out.mono ?_
  rintro e w8 hq
  obtain ⟨Z7,P7,cs7,is7,⟨rfl,hcs,hone⟩,hR,hT,ho⟩:=HT7.out.stepx hq
  subst hR
  clear hcs hone
  have HT8:=hide hT
  have HD8:=hide (HD7.out.kept ho HT7.out.lx)
  clear hq hT ho HC HD7 HT7 u0 u1 u2 u3 u4 u5 v0 v1 v2 v3 v4 v5 v6 v7 v8 v9 v10
  have HLK:=hide (Lock_any w8 _ y PD HT8.out.hy true 0)
  go_wp2_with fail
  refine HLK.out.mono ?_
  rintro e w9 ⟨rfl,hp,ho⟩
  have HT9:=hide (HT8.out.ymod hp ho)
  have HD9:=hide (HD8.out.kept ho (fun b e=>HT8.out.ly b e))
  clear hp ho HLK HT8 HD8
  have l0:=HD9.out.l.c 0 _ rfl
  have l1:=HD9.out.l.c 1 _ rfl
  have l2:=HD9.out.l.c 2 _ rfl
  have l3:=HD9.out.l.c 3 _ rfl
  have l4:=HD9.out.l.c 4 _ rfl
  have l5:=HD9.out.l.c 5 _ rfl
  have v0:=HD9.out.v.c 0 _ rfl
  have v1:=HD9.out.v.c 1 _ rfl
  have v2:=HD9.out.v.c 2 _ rfl
  have v3:=HD9.out.v.c 3 _ rfl
  have v4:=HD9.out.v.c 4 _ rfl
  have v5:=HD9.out.v.c 5 _ rfl
  have v6:=HD9.out.v.c 6 _ rfl
  have v7:=HD9.out.v.c 7 _ rfl
  have v8:=HD9.out.v.c 8 _ rfl
  have v9:=HD9.out.v.c 9 _ rfl
  have v10:=HD9.out.v.c 10 _ rfl
  have HC:=hide (aw_leaf HD9.out HT9.out.hy HT9.out.ly HQL.out (by decide) ⟨by decide,by decide⟩)
  go_wp2_with fail
  refine HC.out.mono ?_
  rintro e w10 hq
  obtain ⟨Z9,P9,cs9,is9,⟨rfl,hcs,hone⟩,hR,hT,ho⟩:=HT9.out.stepy hq
  have HR9:=hide hR.2.2
  clear hR hcs hone
  have HT10:=hide hT
  have HD10:=hide (HD9.out.kept ho HT9.out.ly)
  clear hq hT ho HC HD9 HT9 l0 l1 l2 l3 l4 l5 v0 v1 v2 v3 v4 v5 v6 v7 v8 v9 v10
  have u0:=HD10.out.h.c 0 _ rfl
  have u1:=HD10.out.h.c 1 _ rfl
  have u2:=HD10.out.h.c 2 _ rfl
  have u3:=HD10.out.h.c 3 _ rfl
  have u4:=HD10.out.h.c 4 _ rfl
  have u5:=HD10.out.h.c 5 _ rfl
  have v0:=HD10.out.v.c 0 _ rfl
  have v1:=HD10.out.v.c 1 _ rfl
  have v2:=HD10.out.v.c 2 _ rfl
  have v3:=HD10.out.v.c 3 _ rfl
  have v4:=HD10.out.v.c 4 _ rfl
  have v5:=HD10.out.v.c 5 _ rfl
  have v6:=HD10.out.v.c 6 _ rfl
  have v7:=HD10.out.v.c 7 _ rfl
  have v8:=HD10.out.v.c 8 _ rfl
  have v9:=HD10.out.v.c 9 _ rfl
  have v10:=HD10.out.v.c 10 _ rfl
  have HC:=hide (aw_del HD10.out HT10.out.hy HT10.out.ly HR9.out)
  go_wp2_with fail
  refine HC.out.mono ?_
  rintro e w11 hq
  obtain ⟨Z10,P10,cs10,is10,⟨rfl,hcs,hone⟩,hR,hT,ho⟩:=HT10.out.stepy hq
  have HR10:=hide hR
  clear hR hcs hone
  have HT11:=hide hT
  have HD11:=hide (HD10.out.kept ho HT10.out.ly)
  clear hq hT ho HC HD10 HT10 u0 u1 u2 u3 u4 u5 v0 v1 v2 v3 v4 v5 v6 v7 v8 v9 v10
  have u0:=HD11.out.h.c 0 _ rfl
  have u1:=HD11.out.h.c 1 _ rfl
  have u2:=HD11.out.h.c 2 _ rfl
  have u3:=HD11.out.h.c 3 _ rfl
  have u4:=HD11.out.h.c 4 _ rfl
  have u5:=HD11.out.h.c 5 _ rfl
  have v0:=HD11.out.v.c 0 _ rfl
  have v1:=HD11.out.v.c 1 _ rfl
  have v2:=HD11.out.v.c 2 _ rfl
  have v3:=HD11.out.v.c 3 _ rfl
  have v4:=HD11.out.v.c 4 _ rfl
  have v5:=HD11.out.v.c 5 _ rfl
  have v6:=HD11.out.v.c 6 _ rfl
  have v7:=HD11.out.v.c 7 _ rfl
  have v8:=HD11.out.v.c 8 _ rfl
  have v9:=HD11.out.v.c 9 _ rfl
  have v10:=HD11.out.v.c 10 _ rfl
  have HC:=hide (aw_mark HD11.out HT11.out.hy HR10.out)
  go_wp2_with fail
  refine HC.out.mono ?_
  rintro e w12 hq
  obtain ⟨Z11,P11,cs11,is11,⟨rfl,hcs,hone⟩,hR,hT,ho⟩:=HT11.out.stepy hq
  obtain ⟨rfl,rfl,a9,c9,rfl⟩:=hR
  clear hcs hone
  have HT12:=hide hT
  have HD12:=hide (HD11.out.kept ho HT11.out.ly)
  clear hq hT ho HC HD11 HT11 u0 u1 u2 u3 u4 u5 v0 v1 v2 v3 v4 v5 v6 v7 v8 v9 v10
  have HC9:=hide (Cb.new w12 Hr.none.cl 50)
  have HX9:=hide (onlyA w12 (.cells Hr.none.cells 50))
  go_upto_region 12 with (refine wpList_put_cb rfl 50 (.tmp 9) (.tmp 80) (by rfl) w12.heap.size (by rfl) Hr.none.cl (Hr.cl ⟨2,5,2,0,0,5,⟨#[]⟩⟩) (by rfl) (by exact Tryz.sizeRecF) (by rfl) (by rfl) HC9.out ?_; intro W13 HW13; go_frame)
  have HX13:=hide (HX9.out.trans HW13.out.2 (fun i hi e=>by omega))
  have HT13:=hide (HT12.out.more HX13.out)
  have r3:=HW13.out.1.c 3 _ rfl
  have r8:=HW13.out.1.c 8 _ rfl
  clear HT12 HD12 HC9 HX9 HX13
  have hfr1:∀ (W:World) (a:Option Addr) (c:Nat),(Instr.field 55 (.agg #[.int .i64 0,.bool true,.string ⟨#[120]⟩,.slice a 0 c]) 1).run Tryz.prog W=.ok (.bool true) W:=fun _ _ _=>by kernel_rfl
  have hfr2:∀ (W:World) (a:Option Addr) (c:Nat),(Instr.field 55 (.agg #[.int .i64 0,.bool true,.string ⟨#[120]⟩,.slice a 0 c]) 2).run Tryz.prog W=.ok (.string ⟨#[120]⟩) W:=fun _ _ _=>by kernel_rfl
  have hfr3:∀ (W:World) (a:Option Addr) (c:Nat),(Instr.field 55 (.agg #[.int .i64 0,.bool true,.string ⟨#[]⟩,.slice a 0 c]) 1).run Tryz.prog W=.ok (.bool true) W:=fun _ _ _=>by kernel_rfl
  have hfw:∀ W:World,(Instr.field 32 (.agg #[.int .i64 4,.string ⟨#[]⟩,.int .i64 0,.int .i64 0]) 0).run Tryz.prog W=.ok (.int .i64 4) W:=fun _=>by kernel_rfl
  go_wp2_with fail
  refine (Reply_over _ _ x _ HT13.out.hx rfl (by decide)).mono ?_
  rintro e w14 ⟨a14,c14,rfl,_,_,ho⟩
  have HT14:=hide (HT13.out.more ho)
  have HR14:=hide (HW13.out.1.more ho)
  clear ho HT13 r3 r8
  unfold Pn.rep Pn.over
  simp only [List.length_nil]
  go_wp2_with fail
  refine (Reply_over _ _ x _ HT14.out.hx rfl (by decide)).mono ?_
  rintro e w15 ⟨a15,c15,rfl,_,_,ho⟩
  have HT15:=hide (HT14.out.more ho)
  have HR15:=hide (HR14.out.more ho)
  clear ho HT14 HR14
  unfold Pn.rep Pn.over
  simp only [List.length_nil]
  have r3:=HR15.out.c 3 _ rfl
  have r8:=HR15.out.c 8 _ rfl
  go_wp2_with fail
  refine (Reply_over _ _ y _ HT15.out.hy rfl (Nat.zero_le _)).mono ?_
  rintro e w16 ⟨a16,c16,rfl,_,_,ho⟩
  have HT16:=hide (HT15.out.more ho)
  clear ho HT15 HR15 r3 r8
  unfold Pn.rep Pn.over
  simp only [List.length_nil]
  go_wp2_with fail
  refine (Want_any _ _ y _ HT16.out.hy).mono ?_
  rintro e w17 ⟨rfl,ho⟩
  have HT17:=hide (HT16.out.more ho)
  clear ho HT16
  unfold Pn.want Pn.over
  simp only []
  go_wp2_with fail
  go_ret
  exact ⟨rfl,HT17.out.only⟩
theorem neqR_run (a b:ByteArray) (w:World):(binOp .neq 80 (.agg #[.string a,.string b]) (.agg #[.string a,.string b])).run Tryz.prog w=.ok (.bool false) w:=by
  simp [go_sem]
set_option maxHeartbeats 800000 in
theorem rows_eq (w:World) (a1 a2:Option Addr) (c1 c2:Nat) (L:List (ByteArray × ByteArray)) (h1:Rws w a1 L) (h2:Rws w a2 L) (hl:L.length≤1000) :
    Calls Tryz.prog 34 #[.slice a1 L.length c1,.slice a2 L.length c2] w fun e w'=>e=.returned (.bool true)∧Only (fun _=>False) w w':=by
  have H1:=hide h1
  have H2:=hide h2
  have HL:=hide hl
  clear h1 h2
  go_enter Tryz.func34,Tryz.ntmps34
  go_wp2_with fail
  go_loopw [5] (fun y wr=>∃ (j:Nat),j≤L.length∧y=.int .i64 (j:Int)∧Hid (Only (fun _=>False) w wr)) (fun y _=>L.length - (intOf y).toNat)
  case atStart=>exact ⟨0,by omega,rfl,hide (Only.refl _ _)⟩
  case round=>
    obtain ⟨j,hj,rfl,HO⟩:=hrel
    by_cases hlt:j < L.length
    · obtain ⟨g1,e1,_,k1⟩:=(H1.out.more HO.out) (by omega)
      obtain ⟨g2,e2,_,k2⟩:=(H2.out.more HO.out) (by omega)
      obtain ⟨k10,k11⟩:=k1 j hlt
      obtain ⟨k20,k21⟩:=k2 j hlt
      clear k1 k2
      obtain ⟨z1,hz1⟩:=exq (L[j].1)
      obtain ⟨z2,hz2⟩:=exq (L[j].2)
      rw [hz1] at k10 k20
      rw [hz2] at k11 k21
      have hj0:(0:Int)≤(j:Int):=by omega
      have hj1:(j:Int) < (L.length:Int):=by omega
      have hq:=neqR_run z1 z2
      clear hz1 hz2
      subst e1
      subst e2
      go_wp2_with fail
      go_region
      go_wp2_with fail
      go_roundw
      case rel=>exact ⟨j+1,by omega,by go_num,hide (HO.out.trans (Only.drew _ _) (fun _ _ h=>h))⟩
      case measure=>simp [intOf]; omega
    · go_wp2_with fail
      go_ret
      exact ⟨rfl,HO.out⟩
set_option maxHeartbeats 800000 in
theorem reply_eq (w:World) (er:Int) (f:Bool) (v:ByteArray) (a1 a2:Option Addr) (c1 c2:Nat) (L:List (ByteArray × ByteArray)) (h1:Rws w a1 L) (h2:Rws w a2 L) (hl:L.length≤1000) :
    Calls Tryz.prog 16 #[.agg #[.int .i64 er,.bool f,.string v,.slice a1 L.length c1],.agg #[.int .i64 er,.bool f,.string v,.slice a2 L.length c2]] w fun e w'=>e=.returned (.bool true)∧Only (fun _=>False) w w':=by
  have HO:=hide (o2 (onlyA w (.cells #[.int .i64 er,.bool f,.string v,.slice a1 L.length c1] 55)) (onlyA _ (.cells #[.int .i64 er,.bool f,.string v,.slice a2 L.length c2] 55)))
  have HC:=hide (rows_eq _ a1 a2 c1 c2 L (h1.more HO.out) (h2.more HO.out) hl)
  clear h1 h2 hl
  obtain ⟨n,hn⟩:=exq (L.length)
  rw [hn] at HC HO ⊢
  clear hn
  go_enter Tryz.func16,Tryz.ntmps16
  go_wp2_with fail
  refine HC.out.mono ?_
  rintro e w1 ⟨rfl,ho⟩
  have HO1:=hide (o2 HO.out ho)
  clear ho
  go_wp2_with fail
  go_ret
  exact ⟨rfl,HO1.out⟩
end Go.Proofs.YtajjakljheafjaaGreat
