/- Parts. -/
import Derived.Test.YtajjakljheafjaaGreatK21
import Derived.Maps.AppendAt
import Derived.Test.YtajjakljheafjaaGreatK25
set_option maxRecDepth 100000
namespace Go.Proofs.YtajjakljheafjaaGreat
open Go.RowKit
theorem own_keptJ {S:Nat→Prop} {w w':World} {base:Nat} {e:TypeId} {k:Nat} {v:Value} {n:Nat} {xs:List Value} (h:w.ownsRow base e k v n xs) (ho:Only S w w') (hS:∀ b,v.ownBlock=some b→¬ S b):w'.ownsRow base e k v n xs:=by
  obtain ⟨h1,h2⟩:=h
  refine ⟨h1,?_⟩
  rcases h2 with h2 | ⟨g,cap,cur,hv,hg,hh,r⟩
  · exact .inl h2
  · refine .inr ⟨g,cap,cur,hv,hg,?_,r⟩
    rw [ho.block g (Array.getElem?_eq_some_iff.1 hh).1 (hS g (by rw [hv]; rfl))]
    exact hh
theorem own_mono {w:World} {base base':Nat} {e:TypeId} {k:Nat} {v:Value} {n:Nat} {xs:List Value} (h:w.ownsRow base e k v n xs) (hb:base'≤base):w.ownsRow base' e k v n xs:=by
  obtain ⟨h1,h2⟩:=h
  refine ⟨h1,?_⟩
  rcases h2 with h2 | ⟨g,cap,cur,hv,hg,r⟩
  · exact .inl h2
  · exact .inr ⟨g,cap,cur,hv,Nat.le_trans hb hg,r⟩
theorem own_rg {w:World} {base:Nat} {e:TypeId} {k n g cap:Nat} {xs:List Value} (h:w.ownsRow base e k (.slice (some ⟨g,0,none⟩) n cap) n xs):Rg w g 0 xs:=by
  have hl:=h.1
  refine ⟨fun j v hv=>?_,fun j hj=>?_,(World.ownsRow.lt h g rfl).2⟩
  · have hj:=(List.getElem?_eq_some_iff.1 hv).1
    rw [Nat.zero_add,World.ownsRow.cellAt h j (by omega)]
    exact hv
  · rw [Nat.zero_add]
    exact ⟨by rw [World.ownsRow.cellAt h j (by omega),List.getElem?_eq_getElem hj]; rfl,World.ownsRow.frozenAt h j⟩
def setL (xs:List Value):Nat→List Value→List Value
  | _,[]=>xs
  | j,d :: ds=>setL (xs.set j d) (j+1) ds
theorem setL_mid (ds c1 c2 c3:List Value) (hl:ds.length=c2.length):setL (c1++c2++c3) c1.length ds=c1++ds++c3:=by
  induction ds generalizing c1 c2 with
  | nil=>
    have:c2=[]:=List.eq_nil_of_length_eq_zero (by simpa using hl.symm)
    subst this
    simp [setL]
  | cons d ds ih=>
    cases c2 with
    | nil=>simp at hl
    | cons x c2=>
      have e:(c1++x :: c2++c3).set c1.length d=(c1++[d])++c2++c3:=by simp
      have e2:c1.length+1=(c1++[d]).length:=by simp
      rw [setL,e,e2,ih (c1++[d]) c2 (by simpa using hl)]
      simp
theorem own_setL {w:World} {base:Nat} {e:TypeId} {k n g cap:Nat} {xs:List Value} (h:w.ownsRow base e k (.slice (some ⟨g,0,none⟩) n cap) n xs) (j:Nat) (ds:List Value):(w.setCells g j ds).ownsRow base e k (.slice (some ⟨g,0,none⟩) n cap) n (setL xs j ds):=by
  induction ds generalizing w xs j with
  | nil=>exact h
  | cons d ds ih=>
    rw [World.setCells,setL]
    exact ih (h.stored j d).1 (j+1)
theorem own_put {w:World} {base:Nat} {e:TypeId} {k n g cap:Nat} {c1 c2 c3:List Value} (h:w.ownsRow base e k (.slice (some ⟨g,0,none⟩) n cap) n (c1++c2++c3)) (ds:List Value) (hl:ds.length=c2.length):(w.setCells g c1.length ds).ownsRow base e k (.slice (some ⟨g,0,none⟩) n cap) n (c1++ds++c3):=by
  have:=own_setL h c1.length ds
  rwa [setL_mid ds c1 c2 c3 hl] at this
structure Pz where
  p:Pg
  ao:Option Addr
  cp:Nat
def Pz.none:Pz:=⟨Pg.none,Option.none,0⟩
abbrev Pz.ar (z:Pz):Array Value:=#[.int .i64 z.p.lsn,.int .i64 z.p.kind,.int .i64 z.p.level,.int .i64 z.p.right,.string z.p.high,.slice z.ao z.p.items.length z.cp]
def Pz.c (z:Pz):List Value:=z.ar.toList
def imc (n:Int) (z:Pz):List Value:=.int .i64 n :: z.c
structure At (w:World) (P:Nat→Prop) (z:Pz):Prop where
  strs:∃ B,Strs w B z.ao z.p.items∧(0 < z.p.items.length→P B)
  fit:Fit z.ao z.p.items.length z.cp
theorem At.kept {S P:Nat→Prop} {w w':World} {z:Pz} (h:At w P z) (ho:Only S w w') (hS:∀ k,P k→¬ S k):At w' P z:=by
  obtain ⟨⟨B,h1,h2⟩,h3⟩:=h
  exact ⟨⟨B,h1.kept ho (fun h0=>hS B (h2 h0)),h2⟩,h3⟩
theorem At.more {P:Nat→Prop} {w w':World} {z:Pz} (h:At w P z) (ho:Only (fun _=>False) w w'):At w' P z:=h.kept ho (fun _ _ h=>h)
theorem At.mono {w:World} {P Q:Nat→Prop} {z:Pz} (h:At w P z) (hl:∀ k,P k→Q k):At w Q z:=by
  obtain ⟨⟨B,h1,h2⟩,h3⟩:=h
  exact ⟨⟨B,h1,fun h0=>hl B (h2 h0)⟩,h3⟩
theorem At.old {w:World} {P:Nat→Prop} {z:Pz} (h:At w P z):At w (fun k=>P k∧k < w.heap.size) z:=by
  obtain ⟨⟨B,h1,h2⟩,h3⟩:=h
  exact ⟨⟨B,h1,fun h0=>⟨h2 h0,h1.lt h0⟩⟩,h3⟩
theorem Tryz.infoImJ:(Tryz.prog.info? 253).map (fun i=>(i.zero,i.size,i.bytes))=some (some (.agg (imc 0 Pz.none).toArray),7,80):=by kernel_rfl
theorem im_append (w:World) (base g n cap:Nat) (xs:List Value) (h:w.ownsRow base 253 7 (.slice (some ⟨g,0,none⟩) n cap) n xs) (B:Nat) (m:Int) (z:Pz) (hB:Rg w B 0 (imc m z)) (hn:n≤1000000) (hbase:base≤w.heap.size) :
    ∃ g' c' w',(Builtin.append_ #[46,46] 46 #[.slice (some ⟨g,0,none⟩) n cap,.slice (some ⟨B,0,none⟩) 1 1]).run Tryz.prog w=.ok (.slice (some ⟨g',0,none⟩) (n+1) c') w'∧w'.ownsRow base 253 7 (.slice (some ⟨g',0,none⟩) (n+1) c') (n+1) (xs++imc m z)∧Only (fun k=>k=g) w w'∧(g'=g∨g'=w.heap.size):=by
  obtain ⟨i0,hi,hz0,hz1,hz2⟩:=info_parts Tryz.infoImJ
  obtain ⟨v',w',hr,h2,h3,_,h4⟩:=run_append_own_at (P:=Tryz.prog) w base 46 46 253 i0 (.agg (imc 0 Pz.none).toArray) 7 80 Tryz.underlying46 hi hz0 hz1 hz2 rfl (by decide) (.slice (some ⟨g,0,none⟩) n cap) n xs h ⟨B,0,none⟩ 1 1 (imc m z) rfl
    (fun j u hu=>by
      have:=hB.range j u hu
      rwa [add_at]) (by intro u hu; simp [imc,Pz.c] at hu; rcases hu with rfl | rfl | rfl | rfl | rfl | rfl | rfl <;> rfl) (by unfold maxLen; omega) (by omega) hbase
  obtain ⟨g',c',rfl⟩:∃ g' c',v'=.slice (some ⟨g',0,none⟩) (n+1) c':=by
    rcases h2.2 with ⟨_,q⟩ | ⟨g',cap',cur,q,_⟩
    · omega
    · exact ⟨g',cap',q⟩
  refine ⟨g',c',w',hr,h2,Only.grown h3 (fun k hk=>by cases hk; rfl),?_⟩
  rcases h4 with q | q
  · exact .inl (by simpa [Value.ownBlock] using q)
  · exact .inr (by simpa [Value.ownBlock] using q)
def Nd.z (X:Nd) (a:Int) (ao:Option Addr) (cp:Nat):Pz:=⟨X.pg a,ao,cp⟩
theorem Nd.left_items (X:Nd) (j:Nat):(X.left j).items=X.items.take X.half:=by
  show (X.ks.take X.half).map (itB X.lv)=(X.ks.map (itB X.lv)).take X.half
  rw [List.map_take]
theorem Nd.right_leaf {X:Nd} (v:X.lv=0):X.right.items=X.items.drop X.half:=by
  show X.rest.map (itB X.lv)=(X.ks.map (itB X.lv)).drop X.half
  unfold Nd.rest
  rw [if_pos v,List.map_drop]
theorem Nd.right_inner {X:Nd} (v:0 < X.lv):X.right.items=noE.encS (X.ks.getD X.half (noE,0)).2 :: X.items.drop (X.half+1):=by
  show X.rest.map (itB X.lv)=_ :: (X.ks.map (itB X.lv)).drop (X.half+1)
  unfold Nd.rest
  rw [if_neg (by omega),List.map_cons,List.map_drop]
  congr 1
  unfold itB
  rw [if_neg (by omega)]
theorem Nd.rest_len {X:Nd} (hn:2≤X.ks.length):X.rest.length=X.ks.length - X.half:=by
  have hh:=Nd.half_lt hn
  unfold Nd.rest
  by_cases v:X.lv=0
  · rw [if_pos v,List.length_drop]
  · rw [if_neg v,List.length_cons,List.length_drop]; omega
def SpR (w w':World) (x:Ending) (a:Int) (X:Nd) (j:Nat):Prop :=
  ∃ ao1 cp1 ao2 cp2,x=.returned (.tuple #[.agg ((X.left j).z a ao1 cp1).ar,.agg (X.right.z a ao2 cp2).ar,X.bord.agg,.int .i64 0])∧At w' (fun k=>w.heap.size≤k) ((X.left j).z a ao1 cp1)∧At w' (fun k=>w.heap.size≤k) (X.right.z a ao2 cp2)∧Only (fun _=>False) w w'
theorem Nm.kokL {X:Nd} (h:X.Kok) (j:Nat):(X.left j).Kok:=fun v k hk=>h v k (List.mem_of_mem_take hk)
theorem Nm.kokR {X:Nd} (h:X.Kok) (hn:2≤X.ks.length):X.right.Kok:=by
  intro v k hk
  rcases Nd.rest_mem hn (show k ∈ X.rest from hk) with q | ⟨_,h1,rfl⟩
  · exact h v k q
  · exact h v (X.ks[X.half]) (List.getElem_mem h1)
theorem hiB_ok {e:En} (h:e.ok=true):hiB e=e.enc:=by unfold hiB; rw [if_neg (En.ok_ne h)]
theorem split_nd (w:World) (a:Int) (X:Nd) (j B cp:Nat) (ao:Option Addr) (hP:Nm w X B ao) (hF:Fit ao X.items.length cp) (hj:okC j=true) (hn:2≤X.ks.length) :
    Calls Tryz.prog 185 #[.agg #[.int .i64 a,.int .i64 3,.int .i64 X.lv,.int .i64 X.rt,.string (hiB X.hi),.slice ao X.items.length cp],.int .i64 j] w fun x w'=>SpR w w' x a X j:=by
  obtain ⟨lo,hok⟩:=hP.ok
  have hb:=(hok.bord hn).1
  have hh:=Nd.half_lt hn
  have hil:=Nd.items_len X
  have ehalf:(X.items.length+1) / 2=X.half:=by rw [hil]; rfl
  have rl:=Nd.rest_len hn
  have eL:∀ ao1 cp1,((X.left j).z a ao1 cp1).ar=#[.int .i64 a,.int .i64 3,.int .i64 X.lv,.int .i64 j,.string X.bord.enc,.slice ao1 X.half cp1]:=by
    intro ao1 cp1
    have l1:(X.left j).items.length=X.half:=by rw [Nd.left_items,List.length_take]; omega
    show (#[.int .i64 a,.int .i64 3,.int .i64 X.lv,.int .i64 j,.string (hiB X.bord),.slice ao1 (X.left j).items.length cp1]:Array Value)=_
    rw [l1,hiB_ok hb]
  have eR:∀ ao2 cp2,(X.right.z a ao2 cp2).ar=#[.int .i64 a,.int .i64 3,.int .i64 X.lv,.int .i64 X.rt,.string (hiB X.hi),.slice ao2 (X.items.length - X.half) cp2]:=by
    intro ao2 cp2
    have l1:X.right.items.length=X.items.length - X.half:=by rw [Nd.items_len]; show X.rest.length=_; omega
    show (#[.int .i64 a,.int .i64 3,.int .i64 X.lv,.int .i64 X.rt,.string (hiB X.hi),.slice ao2 X.right.items.length cp2]:Array Value)=_
    rw [l1]
  have fin:∀ (x:Ending) (w':World),SplN w w' x a X.lv X.rt (hiB X.hi) j X.items X.half (X.items.length - X.half) X.bord X.right.items→SpR w w' x a X j:=by
    rintro x w' ⟨B1,ao1,cp1,B2,ao2,cp2,rfl,s1,s2,f1,f2,n1,n2,ho⟩
    refine ⟨ao1,cp1,ao2,cp2,by rw [eL,eR],⟨⟨B1,?_,fun _=>n1⟩,?_⟩,⟨⟨B2,s2,fun _=>n2⟩,?_⟩,ho⟩
    · show Strs w' B1 ao1 (X.left j).items
      rw [Nd.left_items]; exact s1
    · show Fit ao1 (X.left j).items.length cp1
      rw [Nd.left_items,List.length_take,Nat.min_eq_left (by omega)]; exact f1
    · show Fit ao2 X.right.items.length cp2
      rw [Nd.items_len]
      show Fit ao2 X.rest.length cp2
      rw [rl,← hil]; exact f2
  rcases Nat.eq_zero_or_pos X.lv with v | v
  · have h:=split_leaf w a X.rt (hiB X.hi) X.hi j B cp ao X.items X.es (hP.lp v) hF hj (by omega)
    rw [v,Int.ofNat_zero]
    refine h.mono (fun x w' q=>fin x w' ?_)
    rw [ehalf] at q
    rw [v,Int.ofNat_zero,Nd.right_leaf v]
    have e:X.es.getD (X.half - 1) noE=X.bord:=by
      unfold Nd.bord
      rw [if_pos v]
      unfold Nd.es
      rw [List.getD_eq_getElem?_getD,List.getD_eq_getElem?_getD,List.getElem?_map]
      cases X.ks[X.half - 1]? <;> rfl
    rw [e] at q
    exact q
  · have h:=split_inner w a X.lv X.rt (hiB X.hi) X.hi j B cp ao X.items X.ks (hP.ip v) hF hj (by omega)
    refine h.mono (fun x w' q=>fin x w' ?_)
    rw [ehalf] at q
    rw [Nd.right_inner v]
    have e:(X.ks.getD X.half (noE,0)).1=X.bord:=by
      unfold Nd.bord
      rw [if_neg (by omega)]
    rw [e] at q
    exact q
theorem root_nd (w:World) (X:Nd) (i j:Nat) (hv:X.lv+1≤255) (hi:okC i=true) (hj:okC j=true) (hb:X.bord.ok=true) :
    Calls Tryz.prog 186 #[.int .i64 ((X.lv:Int)+1),.int .i64 i,X.bord.agg,.int .i64 j] w fun x w'=>∃ ao cp,x=.returned (.tuple #[.agg ((X.over i j).z 0 ao cp).ar,.int .i64 0])∧At w' (fun k=>w.heap.size≤k) ((X.over i j).z 0 ao cp)∧Only (fun _=>False) w w':=by
  refine (root_ok w ((X.lv:Int)+1) i j X.bord ⟨by omega,by omega⟩ hi hj hb).mono ?_
  rintro x w' ⟨B,ao,cp,rfl,hs,hf,ho,hB⟩
  have q1:itB (X.lv+1) (noE,(i:Int))=noE.encS i:=by unfold itB; rw [if_neg (by omega)]
  have q2:itB (X.lv+1) (X.bord,(j:Int))=X.bord.encS j:=by unfold itB; rw [if_neg (by omega)]
  have ei:(X.over i j).items=[noE.encS i,X.bord.encS j]:=by
    show [itB (X.lv+1) (noE,(i:Int)),itB (X.lv+1) (X.bord,(j:Int))]=_
    rw [q1,q2]
  refine ⟨ao,cp,?_,⟨⟨B,?_,?_⟩,?_⟩,ho⟩
  · show _=Ending.returned (.tuple #[.agg #[.int .i64 0,.int .i64 3,.int .i64 ((X.lv+1:Nat):Int),.int .i64 0,.string (hiB noE),.slice ao (X.over i j).items.length cp],.int .i64 0])
    rw [ei]
    rfl
  · show Strs w' B ao (X.over i j).items
    rw [ei]; exact hs
  · intro _
    exact hB (by simp)
  · show Fit ao (X.over i j).items.length cp
    rw [ei]; exact hf
theorem Pag.s0 {w:World} {b:Nat} {v0 v1 v2 v3 v4 v5:Value} (h:Pag w b v0 v1 v2 v3 v4 v5) (x:Value):Pag (w.setCell ⟨b,0,none⟩ x) b x v1 v2 v3 v4 v5 :=
  ⟨World.cell?_setCell_same _ _ _ h.c0,othN _ _ _ _ _ _ (by omega) h.c1,othN _ _ _ _ _ _ (by omega) h.c2,othN _ _ _ _ _ _ (by omega) h.c3,othN _ _ _ _ _ _ (by omega) h.c4,othN _ _ _ _ _ _ (by omega) h.c5,by simpa using h.f0,by simpa using h.f1,by simpa using h.f2,by simpa using h.f3,by simpa using h.f4,by simpa using h.f5,by simpa using h.lt⟩
theorem sp_newJ (w:World) (v0 v1 v2 v3 v4 v5 u0 u1 u2 u3 u4 u5:Value) (e:En):Pag (((w.alloc (.cells #[v0,v1,v2,v3,v4,v5] 37)).alloc (.cells #[u0,u1,u2,u3,u4,u5] 37)).alloc (.cells #[.string e.key,.int .i64 e.page,.int .i64 e.slot] 89)) w.heap.size v0 v1 v2 v3 v4 v5∧Pag (((w.alloc (.cells #[v0,v1,v2,v3,v4,v5] 37)).alloc (.cells #[u0,u1,u2,u3,u4,u5] 37)).alloc (.cells #[.string e.key,.int .i64 e.page,.int .i64 e.slot] 89)) (w.heap.size+1) u0 u1 u2 u3 u4 u5∧Ev (((w.alloc (.cells #[v0,v1,v2,v3,v4,v5] 37)).alloc (.cells #[u0,u1,u2,u3,u4,u5] 37)).alloc (.cells #[.string e.key,.int .i64 e.page,.int .i64 e.slot] 89)) (w.heap.size+1+1) e∧Only (fun _=>False) w (((w.alloc (.cells #[v0,v1,v2,v3,v4,v5] 37)).alloc (.cells #[u0,u1,u2,u3,u4,u5] 37)).alloc (.cells #[.string e.key,.int .i64 e.page,.int .i64 e.slot] 89)):=by
  have e1:=Pag.new (w.alloc (.cells #[v0,v1,v2,v3,v4,v5] 37)) u0 u1 u2 u3 u4 u5
  rw [World.size_alloc] at e1
  have e2:=Ev.new ((w.alloc (.cells #[v0,v1,v2,v3,v4,v5] 37)).alloc (.cells #[u0,u1,u2,u3,u4,u5] 37)) e
  rw [World.size_alloc,World.size_alloc] at e2
  exact ⟨(Pag.new w _ _ _ _ _ _).more (o2 (onlyA _ _) (onlyA _ _)),e1.more (onlyA _ _),e2,o2 (o2 (onlyA _ _) (onlyA _ _)) (onlyA _ _)⟩
def Im2 (w w':World) (x:Ending) (p:Int) (X:Nd) (j:Nat):Prop :=
  ∃ b ao1 cp1 ao2 cp2,x=.returned (.tuple #[.slice (some ⟨b,0,none⟩) 2 2,.int .i64 0])∧w'.ownsRow w.heap.size 253 7 (.slice (some ⟨b,0,none⟩) 2 2) 2 (imc p ((X.left j).z 0 ao1 cp1)++imc j (X.right.z 0 ao2 cp2))∧At w' (fun k=>w.heap.size≤k∧k≠b) ((X.left j).z 0 ao1 cp1)∧At w' (fun k=>w.heap.size≤k∧k≠b) (X.right.z 0 ao2 cp2)∧Only (fun _=>False) w w'
set_option maxHeartbeats 3200000 in
theorem bsplit_one (w:World) (a p:Int) (X:Nd) (j B cp fb fo fc:Nat) (ao:Option Addr) (hP:Nm w X B ao) (hF:Fit ao X.items.length cp) (hj:okC j=true) (hn:2≤X.ks.length) (hfr:w.cell? ⟨fb,fo,none⟩=some (.int .i64 j)) :
    Calls Tryz.prog 173 #[.agg #[.int .i64 a,.int .i64 3,.int .i64 X.lv,.int .i64 X.rt,.string (hiB X.hi),.slice ao X.items.length cp],.int .i64 p,.slice (some ⟨fb,fo,none⟩) 1 fc] w fun x w'=>Im2 w w' x p X j:=by
  have HP:=hide (Pag.new w (.int .i64 a) (.int .i64 3) (.int .i64 X.lv) (.int .i64 X.rt) (.string (hiB X.hi)) (.slice ao X.items.length cp))
  have HO:=hide (onlyA w (.cells #[.int .i64 a,.int .i64 3,.int .i64 X.lv,.int .i64 X.rt,.string (hiB X.hi),.slice ao X.items.length cp] 37))
  have HSP:Hid (∀ W,Only (fun _=>False) w W→Calls Tryz.prog 185 #[.agg #[.int .i64 0,.int .i64 3,.int .i64 X.lv,.int .i64 X.rt,.string (hiB X.hi),.slice ao X.items.length cp],.int .i64 j] W fun x w'=>SpR W w' x 0 X j):=fun W ho=>split_nd W 0 X j B cp ao (hP.more ho) hF hj hn
  have HFB:Hid (fb < w.heap.size):=World.block_lt_of_cell? w _ hfr
  clear hP hF hj hn
  obtain ⟨L,hL⟩:=exq ((X.lv:Int))
  obtain ⟨R,hR⟩:=exq ((X.rt:Int))
  obtain ⟨h,hh⟩:=exq (hiB X.hi)
  obtain ⟨n,hn⟩:=exq (X.items.length)
  obtain ⟨J,hJ⟩:=exq ((j:Int))
  rw [hL,hR,hh,hn] at HP HO HSP ⊢
  rw [hJ] at HSP hfr
  have HJ:=hide hJ
  clear hL hR hh hn hJ
  go_enter Tryz.func173,Tryz.ntmps173
  go_upto_region 1 with fail
  obtain ⟨W0,hW0⟩:=exq (w.alloc (.cells #[.int .i64 a,.int .i64 3,.int .i64 L,.int .i64 R,.string h,.slice ao n cp] 37))
  rw [hW0] at HP HO ⊢
  clear hW0
  obtain ⟨p0,p1,p2,p3,p4,p5,g0,_⟩:=HP.out
  go_upto_region 2 with fail
  have HP1:=hide (HP.out.s0 (.int .i64 0))
  have HO1:Hid (Only (fun _=>False) w (W0.setCell ⟨w.heap.size,0,none⟩ (.int .i64 0))):=HO.out.trans (Only.setCell (S:=fun k=>k=w.heap.size) W0 ⟨w.heap.size,0,none⟩ _ rfl) (fun i hi e=>by omega)
  obtain ⟨W1,hW1⟩:=exq (W0.setCell ⟨w.heap.size,0,none⟩ (.int .i64 0))
  rw [hW1] at HP1 HO1 ⊢
  clear hW1 p0 p1 p2 p3 p4 p5 g0 HP HO
  have hf1:=(HO1.out.cell (p:=⟨fb,fo,none⟩) HFB.out (fun h=>h)).trans hfr
  obtain ⟨p0,p1,p2,p3,p4,p5,_⟩:=HP1.out
  go_wp2_with fail
  refine (HSP.out _ HO1.out).mono ?_
  rintro x w1 ⟨ao1,cp1,ao2,cp2,rfl,hA1,hA2,ho⟩
  obtain ⟨z1,hz1⟩:=exq ((X.left j).z 0 ao1 cp1)
  obtain ⟨z2,hz2⟩:=exq (X.right.z 0 ao2 cp2)
  obtain ⟨e,he⟩:=exq (X.bord)
  rw [hz1] at hA1
  rw [hz2] at hA2
  rw [hz1,hz2,he]
  have HZ:=hide (And.intro hz1 hz2)
  have HP2:=hide (HP1.out.more ho)
  have HO2:=hide (o2 HO1.out ho)
  have HA1:=hide (hA1.mono (Q:=fun k=>w.heap.size≤k) (fun k hk=>Nat.le_trans HO1.out.size hk))
  have HA2:=hide (hA2.mono (Q:=fun k=>w.heap.size≤k) (fun k hk=>Nat.le_trans HO1.out.size hk))
  clear hz1 hz2 he hA1 hA2 p0 p1 p2 p3 p4 p5 hf1 HP1 ho HSP
  unfold Pz.ar En.agg
  go_upto_region 4 with fail
  have HX:=hide (sp_newJ w1 (.int .i64 z1.p.lsn) (.int .i64 z1.p.kind) (.int .i64 z1.p.level) (.int .i64 z1.p.right) (.string z1.p.high) (.slice z1.ao z1.p.items.length z1.cp) (.int .i64 z2.p.lsn) (.int .i64 z2.p.kind) (.int .i64 z2.p.level) (.int .i64 z2.p.right) (.string z2.p.high) (.slice z2.ao z2.p.items.length z2.cp) e)
  obtain ⟨w2,hw2⟩:=exq (((w1.alloc (.cells #[.int .i64 z1.p.lsn,.int .i64 z1.p.kind,.int .i64 z1.p.level,.int .i64 z1.p.right,.string z1.p.high,.slice z1.ao z1.p.items.length z1.cp] 37)).alloc (.cells #[.int .i64 z2.p.lsn,.int .i64 z2.p.kind,.int .i64 z2.p.level,.int .i64 z2.p.right,.string z2.p.high,.slice z2.ao z2.p.items.length z2.cp] 37)).alloc (.cells #[.string e.key,.int .i64 e.page,.int .i64 e.slot] 89))
  rw [hw2] at HX ⊢
  clear hw2
  obtain ⟨q,hq⟩:=exq (w1.heap.size)
  rw [hq] at HX ⊢
  clear hq
  have HO3:=hide (o2 HO2.out HX.out.2.2.2)
  have HA1':=hide (HA1.out.more HX.out.2.2.2)
  have HA2':=hide (HA2.out.more HX.out.2.2.2)
  clear HA1 HA2 HP2 HO2 HO1
  obtain ⟨p0,p1,p2,p3,p4,p5,_⟩:=HX.out.1
  obtain ⟨q0,q1,q2,q3,q4,q5,_⟩:=HX.out.2.1
  go_upto_region 7 with fail
  have HOW:Hid ((w2.alloc (.cells #[.int .i64 p,.int .i64 z1.p.lsn,.int .i64 z1.p.kind,.int .i64 z1.p.level,.int .i64 z1.p.right,.string z1.p.high,.slice z1.ao z1.p.items.length z1.cp,.int .i64 J,.int .i64 z2.p.lsn,.int .i64 z2.p.kind,.int .i64 z2.p.level,.int .i64 z2.p.right,.string z2.p.high,.slice z2.ao z2.p.items.length z2.cp] 253)).ownsRow w.heap.size 253 7 (.slice (some ⟨w2.heap.size,0,none⟩) 2 2) 2 (imc p z1++imc J z2)):=World.ownsRow_lit w2 _ 2 HO3.out.size (by unfold maxLen; omega) rfl
  have HAL:=hide (onlyA w2 (.cells #[.int .i64 p,.int .i64 z1.p.lsn,.int .i64 z1.p.kind,.int .i64 z1.p.level,.int .i64 z1.p.right,.string z1.p.high,.slice z1.ao z1.p.items.length z1.cp,.int .i64 J,.int .i64 z2.p.lsn,.int .i64 z2.p.kind,.int .i64 z2.p.level,.int .i64 z2.p.right,.string z2.p.high,.slice z2.ao z2.p.items.length z2.cp] 253))
  have HA1o:=hide ((HA1'.out.old).more HAL.out)
  have HA2o:=hide ((HA2'.out.old).more HAL.out)
  obtain ⟨w3,hw3⟩:=exq ((w2.alloc (.cells #[.int .i64 p,.int .i64 z1.p.lsn,.int .i64 z1.p.kind,.int .i64 z1.p.level,.int .i64 z1.p.right,.string z1.p.high,.slice z1.ao z1.p.items.length z1.cp,.int .i64 J,.int .i64 z2.p.lsn,.int .i64 z2.p.kind,.int .i64 z2.p.level,.int .i64 z2.p.right,.string z2.p.high,.slice z2.ao z2.p.items.length z2.cp] 253)))
  rw [hw3] at HOW HAL HA1o HA2o ⊢
  clear hw3
  obtain ⟨b,hb⟩:=exq (w2.heap.size)
  rw [hb] at HOW HA1o HA2o ⊢
  clear hb p0 p1 p2 p3 p4 p5 q0 q1 q2 q3 q4 q5
  have HO4:=hide (o2 HO3.out HAL.out)
  have HA1:=hide (HA1o.out.mono (Q:=fun k=>w.heap.size≤k∧k≠b) (fun k hk=>⟨hk.1,by have:=hk.2; omega⟩))
  have HA2:=hide (HA2o.out.mono (Q:=fun k=>w.heap.size≤k∧k≠b) (fun k hk=>⟨hk.1,by have:=hk.2; omega⟩))
  go_wp2_with fail
  go_ret2
  obtain ⟨rfl,rfl⟩:=HZ.out
  obtain rfl:=HJ.out
  exact ⟨b,ao1,cp1,ao2,cp2,rfl,HOW.out,HA1.out,HA2.out,HO4.out⟩
structure Pz3 (w5 W:World) (b:Nat) (z:Pz):Prop where
  pag:Pag W b (.int .i64 z.p.lsn) (.int .i64 z.p.kind) (.int .i64 z.p.level) (.int .i64 z.p.right) (.string z.p.high) (.slice z.ao z.p.items.length z.cp)
  at_:At W (fun k=>w5.heap.size≤k) z
  only:Only (fun _=>False) w5 W
theorem Pz3.after {w5 x1:World} {z:Pz} (ho:Only (fun _=>False) w5 x1) (hA:At x1 (fun k=>w5.heap.size≤k) z):Pz3 w5 (x1.alloc (.cells #[.int .i64 z.p.lsn,.int .i64 z.p.kind,.int .i64 z.p.level,.int .i64 z.p.right,.string z.p.high,.slice z.ao z.p.items.length z.cp] 37)) x1.heap.size z :=
  ⟨Pag.new x1 _ _ _ _ _ _,hA.more (onlyA _ _),o2 ho (onlyA _ _)⟩
theorem Pz3.before {w5 W1 x1:World} {b:Nat} {z:Pz} {v0 v1 v2 v3 v4 v5:Value} (hb:w5.heap.size≤b) (hl:b < W1.heap.size) (ho:Only (fun _=>False) w5 W1) (ho1:Only (fun _=>False) W1 x1) (hP:Pag x1 b v0 v1 v2 v3 v4 v5) (hA:At x1 (fun k=>W1.heap.size≤k) z):Pz3 w5 ((((((x1.setCell ⟨b,0,none⟩ (.int .i64 z.p.lsn)).setCell ⟨b,1,none⟩ (.int .i64 z.p.kind)).setCell ⟨b,2,none⟩ (.int .i64 z.p.level)).setCell ⟨b,3,none⟩ (.int .i64 z.p.right)).setCell ⟨b,4,none⟩ (.string z.p.high)).setCell ⟨b,5,none⟩ (.slice z.ao z.p.items.length z.cp)) b z :=
  ⟨Pag.six hP _ _ _ _ _ _,(hA.kept (Only.six x1 b _ _ _ _ _ _) (fun _ hk e=>by omega)).mono (fun _ hk=>by have:=ho.size; omega),(o2 ho ho1).trans (Only.six x1 b _ _ _ _ _ _) (fun k hk e=>by omega)⟩
def Im3 (w w':World) (x:Ending) (X:Nd) (i j:Nat):Prop :=
  ∃ b c ao1 cp1 ao2 cp2 ao3 cp3,x=.returned (.tuple #[.slice (some ⟨b,0,none⟩) 3 c,.int .i64 0])∧w'.ownsRow w.heap.size 253 7 (.slice (some ⟨b,0,none⟩) 3 c) 3 (imc i ((X.left j).z 0 ao1 cp1)++imc j (X.right.z 0 ao2 cp2)++imc 1 ((X.over i j).z 0 ao3 cp3))∧At w' (fun k=>w.heap.size≤k∧k≠b) ((X.left j).z 0 ao1 cp1)∧At w' (fun k=>w.heap.size≤k∧k≠b) (X.right.z 0 ao2 cp2)∧At w' (fun k=>w.heap.size≤k∧k≠b) ((X.over i j).z 0 ao3 cp3)∧Only (fun _=>False) w w'
set_option maxHeartbeats 3200000 in
theorem bsplit_two (w:World) (a p:Int) (X:Nd) (i j B cp fb fo fc:Nat) (ao:Option Addr) (hP:Nm w X B ao) (hF:Fit ao X.items.length cp) (hi:okC i=true) (hj:okC j=true) (hn:2≤X.ks.length) (hv:X.lv+1≤255) (hfr0:w.cell? ⟨fb,fo,none⟩=some (.int .i64 i)) (hfr:w.cell? ⟨fb,fo+1,none⟩=some (.int .i64 j)) :
    Calls Tryz.prog 173 #[.agg #[.int .i64 a,.int .i64 3,.int .i64 X.lv,.int .i64 X.rt,.string (hiB X.hi),.slice ao X.items.length cp],.int .i64 p,.slice (some ⟨fb,fo,none⟩) 2 fc] w fun x w'=>Im3 w w' x X i j:=by
  have HP:=hide (Pag.new w (.int .i64 a) (.int .i64 3) (.int .i64 X.lv) (.int .i64 X.rt) (.string (hiB X.hi)) (.slice ao X.items.length cp))
  have HO:=hide (onlyA w (.cells #[.int .i64 a,.int .i64 3,.int .i64 X.lv,.int .i64 X.rt,.string (hiB X.hi),.slice ao X.items.length cp] 37))
  have HSP:Hid (∀ W,Only (fun _=>False) w W→Calls Tryz.prog 185 #[.agg #[.int .i64 0,.int .i64 3,.int .i64 X.lv,.int .i64 X.rt,.string (hiB X.hi),.slice ao X.items.length cp],.int .i64 j] W fun x w'=>SpR W w' x 0 X j):=fun W ho=>split_nd W 0 X j B cp ao (hP.more ho) hF hj hn
  have HFB:Hid (fb < w.heap.size):=World.block_lt_of_cell? w _ hfr
  have HRT:Hid (∀ W,Calls Tryz.prog 186 #[.int .i64 ((X.lv:Int)+1),.int .i64 i,X.bord.agg,.int .i64 j] W fun x w'=>∃ ao cp,x=.returned (.tuple #[.agg ((X.over i j).z 0 ao cp).ar,.int .i64 0])∧At w' (fun k=>W.heap.size≤k) ((X.over i j).z 0 ao cp)∧Only (fun _=>False) W w'):=fun W=>root_nd W X i j hv hi hj (by obtain ⟨lo,ho⟩:=hP.ok; exact (ho.bord hn).1)
  have hLb:-1≤(X.lv:Int)∧(X.lv:Int)≤254:=by omega
  clear hP hF hj hi hv hn
  obtain ⟨L,hL⟩:=exq ((X.lv:Int))
  obtain ⟨R,hR⟩:=exq ((X.rt:Int))
  obtain ⟨h,hh⟩:=exq (hiB X.hi)
  obtain ⟨n,hn⟩:=exq (X.items.length)
  obtain ⟨J,hJ⟩:=exq ((j:Int))
  rw [hL,hR,hh,hn] at HP HO HSP ⊢
  obtain ⟨I,hI⟩:=exq ((i:Int))
  rw [hJ] at HSP hfr HRT
  rw [hI] at hfr0 HRT
  rw [hL] at HRT hLb
  have HI:=hide hI
  have HJ:=hide hJ
  clear hL hR hh hn hJ hI
  go_enter Tryz.func173,Tryz.ntmps173
  go_upto_region 1 with fail
  obtain ⟨W0,hW0⟩:=exq (w.alloc (.cells #[.int .i64 a,.int .i64 3,.int .i64 L,.int .i64 R,.string h,.slice ao n cp] 37))
  rw [hW0] at HP HO ⊢
  clear hW0
  obtain ⟨p0,p1,p2,p3,p4,p5,g0,_⟩:=HP.out
  go_upto_region 2 with fail
  have HP1:=hide (HP.out.s0 (.int .i64 0))
  have HO1:Hid (Only (fun _=>False) w (W0.setCell ⟨w.heap.size,0,none⟩ (.int .i64 0))):=HO.out.trans (Only.setCell (S:=fun k=>k=w.heap.size) W0 ⟨w.heap.size,0,none⟩ _ rfl) (fun i hi e=>by omega)
  obtain ⟨W1,hW1⟩:=exq (W0.setCell ⟨w.heap.size,0,none⟩ (.int .i64 0))
  rw [hW1] at HP1 HO1 ⊢
  clear hW1 p0 p1 p2 p3 p4 p5 g0 HP HO
  have hf1:=(HO1.out.cell (p:=⟨fb,fo+1,none⟩) HFB.out (fun h=>h)).trans hfr
  obtain ⟨p0,p1,p2,p3,p4,p5,_⟩:=HP1.out
  go_wp2_with fail
  refine (HSP.out _ HO1.out).mono ?_
  rintro x w1 ⟨ao1,cp1,ao2,cp2,rfl,hA1,hA2,ho⟩
  obtain ⟨z1,hz1⟩:=exq ((X.left j).z 0 ao1 cp1)
  obtain ⟨z2,hz2⟩:=exq (X.right.z 0 ao2 cp2)
  obtain ⟨e,he⟩:=exq (X.bord)
  rw [hz1] at hA1
  rw [hz2] at hA2
  rw [hz1,hz2,he]
  rw [he] at HRT
  have HZ:=hide (And.intro hz1 hz2)
  have HP2:=hide (HP1.out.more ho)
  have HO2:=hide (o2 HO1.out ho)
  have HA1:=hide (hA1.mono (Q:=fun k=>w.heap.size≤k) (fun k hk=>Nat.le_trans HO1.out.size hk))
  have HA2:=hide (hA2.mono (Q:=fun k=>w.heap.size≤k) (fun k hk=>Nat.le_trans HO1.out.size hk))
  clear hz1 hz2 he hA1 hA2 p0 p1 p2 p3 p4 p5 hf1 HP1 ho HSP
  unfold Pz.ar En.agg
  go_upto_region 4 with fail
  have HX:=hide (sp_newJ w1 (.int .i64 z1.p.lsn) (.int .i64 z1.p.kind) (.int .i64 z1.p.level) (.int .i64 z1.p.right) (.string z1.p.high) (.slice z1.ao z1.p.items.length z1.cp) (.int .i64 z2.p.lsn) (.int .i64 z2.p.kind) (.int .i64 z2.p.level) (.int .i64 z2.p.right) (.string z2.p.high) (.slice z2.ao z2.p.items.length z2.cp) e)
  obtain ⟨w2,hw2⟩:=exq (((w1.alloc (.cells #[.int .i64 z1.p.lsn,.int .i64 z1.p.kind,.int .i64 z1.p.level,.int .i64 z1.p.right,.string z1.p.high,.slice z1.ao z1.p.items.length z1.cp] 37)).alloc (.cells #[.int .i64 z2.p.lsn,.int .i64 z2.p.kind,.int .i64 z2.p.level,.int .i64 z2.p.right,.string z2.p.high,.slice z2.ao z2.p.items.length z2.cp] 37)).alloc (.cells #[.string e.key,.int .i64 e.page,.int .i64 e.slot] 89))
  rw [hw2] at HX ⊢
  clear hw2
  obtain ⟨q,hq⟩:=exq (w1.heap.size)
  rw [hq] at HX ⊢
  clear hq
  have HO3:=hide (o2 HO2.out HX.out.2.2.2)
  have HP3:=hide (HP2.out.more HX.out.2.2.2)
  have HA1':=hide (HA1.out.more HX.out.2.2.2)
  have HA2':=hide (HA2.out.more HX.out.2.2.2)
  clear HA1 HA2 HP2 HO2 HO1
  obtain ⟨p0,p1,p2,p3,p4,p5,_⟩:=HX.out.1
  obtain ⟨q0,q1,q2,q3,q4,q5,_⟩:=HX.out.2.1
  go_upto_region 7 with fail
  have HOW:Hid ((w2.alloc (.cells #[.int .i64 p,.int .i64 z1.p.lsn,.int .i64 z1.p.kind,.int .i64 z1.p.level,.int .i64 z1.p.right,.string z1.p.high,.slice z1.ao z1.p.items.length z1.cp,.int .i64 J,.int .i64 z2.p.lsn,.int .i64 z2.p.kind,.int .i64 z2.p.level,.int .i64 z2.p.right,.string z2.p.high,.slice z2.ao z2.p.items.length z2.cp] 253)).ownsRow w.heap.size 253 7 (.slice (some ⟨w2.heap.size,0,none⟩) 2 2) 2 (imc p z1++imc J z2)):=World.ownsRow_lit w2 _ 2 HO3.out.size (by unfold maxLen; omega) rfl
  have HAL:=hide (onlyA w2 (.cells #[.int .i64 p,.int .i64 z1.p.lsn,.int .i64 z1.p.kind,.int .i64 z1.p.level,.int .i64 z1.p.right,.string z1.p.high,.slice z1.ao z1.p.items.length z1.cp,.int .i64 J,.int .i64 z2.p.lsn,.int .i64 z2.p.kind,.int .i64 z2.p.level,.int .i64 z2.p.right,.string z2.p.high,.slice z2.ao z2.p.items.length z2.cp] 253))
  have HA1o:=hide ((HA1'.out.old).more HAL.out)
  have HA2o:=hide ((HA2'.out.old).more HAL.out)
  have HBB:Hid (w.heap.size < w2.heap.size∧q+1+1 < w2.heap.size):=by have h1:=HP3.out.lt; have h2:=HX.out.2.2.1.lt; exact ⟨by omega,by omega⟩
  obtain ⟨w3,hw3⟩:=exq ((w2.alloc (.cells #[.int .i64 p,.int .i64 z1.p.lsn,.int .i64 z1.p.kind,.int .i64 z1.p.level,.int .i64 z1.p.right,.string z1.p.high,.slice z1.ao z1.p.items.length z1.cp,.int .i64 J,.int .i64 z2.p.lsn,.int .i64 z2.p.kind,.int .i64 z2.p.level,.int .i64 z2.p.right,.string z2.p.high,.slice z2.ao z2.p.items.length z2.cp] 253)))
  rw [hw3] at HOW HAL HA1o HA2o ⊢
  clear hw3
  obtain ⟨b,hb⟩:=exq (w2.heap.size)
  rw [hb] at HOW HA1o HA2o HBB ⊢
  clear hb p0 p1 p2 p3 p4 p5 q0 q1 q2 q3 q4 q5
  have HO4:=hide (o2 HO3.out HAL.out)
  have HA1:=hide (HA1o.out.mono (Q:=fun k=>w.heap.size≤k∧k≠b) (fun k hk=>⟨hk.1,by have:=hk.2; omega⟩))
  have HA2:=hide (HA2o.out.mono (Q:=fun k=>w.heap.size≤k∧k≠b) (fun k hk=>⟨hk.1,by have:=hk.2; omega⟩))
  have HP4:=hide (HP3.out.more HAL.out)
  have HE4:=hide (HX.out.2.2.1.more HAL.out)
  clear HX HP3 HAL HA1' HA2'
  have hf0:=(HO4.out.cell (p:=⟨fb,fo,none⟩) HFB.out (fun h=>h)).trans hfr0
  have hc0:=(own_rg HOW.out).cell 0 _ rfl
  rw [Nat.zero_add] at hc0
  have hz0:=(own_rg HOW.out).fr 0 (by simp [imc])
  rw [Nat.zero_add] at hz0
  go_upto_region 10 with fail
  have HOW5:Hid ((w3.setCell ⟨b,0,none⟩ (.int .i64 I)).ownsRow w.heap.size 253 7 (.slice (some ⟨b,0,none⟩) 2 2) 2 (imc I z1++imc J z2)):=own_put (c1:=[]) (c2:=[.int .i64 p]) (c3:=z1.c++imc J z2) HOW.out [.int .i64 I] rfl
  have HSC:Hid (Only (fun k=>k=b) w3 (w3.setCell ⟨b,0,none⟩ (.int .i64 I))):=Only.setCell w3 ⟨b,0,none⟩ _ rfl
  obtain ⟨w5,hw5⟩:=exq (w3.setCell ⟨b,0,none⟩ (.int .i64 I))
  rw [hw5] at HOW5 HSC ⊢
  clear hw5 hc0 hz0 hf0
  have HNB:Hid (w.heap.size≤b):=by have:=HBB.out; unfold Hid; omega
  have HO5:=hide (HO4.out.trans HSC.out (fun k hk e=>by have:=HNB.out; omega))
  have HP5:=hide (HP4.out.kept HSC.out (by have:=HBB.out; omega))
  have HE5:=hide (HE4.out.kept HSC.out (by have:=HBB.out; omega))
  have HA1b:=hide (HA1.out.kept HSC.out (fun k hk=>hk.2))
  have HA2b:=hide (HA2.out.kept HSC.out (fun k hk=>hk.2))
  clear HA1 HA2 HA1o HA2o HP4 HE4 HO4 HSC HOW
  have hf5:=(HO5.out.cell (p:=⟨fb,fo,none⟩) HFB.out (fun h=>h)).trans hfr0
  have HFB5:Hid (fb < w5.heap.size):=Nat.lt_of_lt_of_le HFB.out HO5.out.size
  have hLw:IntKind.i64.wrap (L+1)=L+1:=by rw [IntKind.wrap_i64]; omega
  unfold En.agg at HRT
  go_cut [14,12] (fun x y wx=>∃ b3 z3,x=.pointer (some ⟨b3,0,none⟩)∧y=.int .i64 0∧Hid (Pz3 w5 wx b3 z3∧∃ ao3 cp3,(X.over i j).z 0 ao3 cp3=z3))
  case first=>
    -- {r10
    refine wp_region_noPanic ?_
    refine wp_region_held_drew (S:=fun W=>Only (fun _=>False) w5 W) (by kernel_rfl) (Only.drew _ _) (fun hHeld=>?_)
    refine tkP 0 (.pointer (some ⟨w.heap.size,2,none⟩)) rfl ?_
    refine tkP 3 (.slice (some ⟨fb,fo,none⟩) 2 fc) rfl ?_
    refine tkQ 6 (.agg #[.string e.key,.int .i64 e.page,.int .i64 e.slot]) rfl (yieldsIf_load_ev (by rfl) _ rfl rfl (fun W hW=>HE5.out.more hW)) ?_
    refine tkP 7 (.int .i64 J) rfl ?_
    refine tkQ 1 (.int .i64 L) rfl (yieldsIf_load_cell (by rfl) 3 _ rfl _ rfl (fun W hW=>(HP5.out.more hW).c2) (fun W hc=>ld_int hc)) ?_
    refine tkP 4 (.pointer (some ⟨fb,fo,none⟩)) rfl ?_
    refine tkP 2 (.int .i64 (L+1)) rfl ?_
    refine tkQ 5 (.int .i64 I) rfl (yieldsIf_load_cell (by rfl) 3 _ rfl _ rfl (fun W hW=>(hW.cell (p:=⟨fb,fo,none⟩) HFB5.out (fun h=>h)).trans hf5) (fun W hc=>ld_int hc)) ?_
    refine wpAnyH_ready (rs:=[8,12]) (by kernel_rfl) (by simp) ?_
    refine arC rfl (fun K hK=>?_) (arC rfl (fun K hK=>?_) (AllReadyH.nil))
    · go_simp
      refine (HRT.out _).mono ?_
      rintro x x1 ⟨ao3,cp3,rfl,hA3,ho3⟩
      obtain ⟨z3,hz3⟩:=exq ((X.over i j).z 0 ao3 cp3)
      rw [hz3] at hA3 ⊢
      have HZ3:Hid (∃ ao3 cp3,(X.over i j).z 0 ao3 cp3=z3):=⟨ao3,cp3,hz3⟩
      have HX1:=hide (o2 hHeld ho3)
      have HA3:=hide (hA3.mono (Q:=fun k=>w5.heap.size≤k) (fun k hk=>Nat.le_trans hHeld.size hk))
      clear hz3 hA3 ho3
      unfold Pz.ar
      refine hK.out _ _ (HX1.out) (fun hHeld=>?_)
      clear hK K
      try simp only [Act.put,lsA,lsB,lsC]
      refine tkP 9 (.tuple #[.agg #[.int .i64 z3.p.lsn,.int .i64 z3.p.kind,.int .i64 z3.p.level,.int .i64 z3.p.right,.string z3.p.high,.slice z3.ao z3.p.items.length z3.cp],.int .i64 0]) rfl ?_
      refine tkP 10 (.agg #[.int .i64 z3.p.lsn,.int .i64 z3.p.kind,.int .i64 z3.p.level,.int .i64 z3.p.right,.string z3.p.high,.slice z3.ao z3.p.items.length z3.cp]) rfl ?_
      refine tkP 11 (.int .i64 0) rfl ?_
      refine rd1 12 rfl (fun K hK=>?_)
      go_simp
      refine hK.out _ _ (o2 HX1.out (onlyA _ _)) (fun hHeld=>?_)
      clear hK K
      try simp only [Act.put,lsA,lsB,lsC]
      refine rd1 13 rfl (fun K hK=>?_)
      go_simp
      have HNV:=hide (Pz3.after HX1.out HA3.out)
      refine hK.out _ _ (HNV.out.only) (fun hHeld=>?_)
      clear hK K
      try simp only [Act.put,lsA,lsB,lsC]
      refine tkP 14 (.int .i64 0) rfl ?_
      refine dnN ?_
      go_wp2_with fail
      go_meet
      exact ⟨_,z3,rfl,rfl,HNV.out,HZ3.out⟩
    · go_simp
      have HZA:Hid (Pag ((w5.alloc (.cells #[.int .i64 0,.int .i64 0,.int .i64 0,.int .i64 0,.string ⟨#[]⟩,.slice none 0 0] 37)).drew) w5.heap.size (.int .i64 0) (.int .i64 0) (.int .i64 0) (.int .i64 0) (.string ⟨#[]⟩) (.slice none 0 0)):=(Pag.new w5 _ _ _ _ _ _).more (Only.drew _ _)
      have HOA:Hid (Only (fun _=>False) w5 ((w5.alloc (.cells #[.int .i64 0,.int .i64 0,.int .i64 0,.int .i64 0,.string ⟨#[]⟩,.slice none 0 0] 37)).drew)):=o2 (onlyA _ _) (Only.drew _ _)
      refine hK.out _ _ (HOA.out) (fun hHeld=>?_)
      clear hK K
      try simp only [Act.put,lsA,lsB,lsC]
      refine rd1 8 rfl (fun K hK=>?_)
      go_simp
      refine (HRT.out _).mono ?_
      rintro x x1 ⟨ao3,cp3,rfl,hA3,ho3⟩
      obtain ⟨z3,hz3⟩:=exq ((X.over i j).z 0 ao3 cp3)
      rw [hz3] at hA3 ⊢
      have HZ3:Hid (∃ ao3 cp3,(X.over i j).z 0 ao3 cp3=z3):=⟨ao3,cp3,hz3⟩
      have HX1:=hide (o2 hHeld ho3)
      have HA3:=hide hA3
      have HY1:=hide ho3
      have HZ7:=hide (HZA.out.more ho3)
      obtain ⟨q0,q1,q2,q3,q4,q5,g0,g1,g2,g3,g4,g5,ql⟩:=HZ7.out
      clear hz3 hA3 ho3
      unfold Pz.ar
      refine hK.out _ _ (HX1.out) (fun hHeld=>?_)
      clear hK K
      try simp only [Act.put,lsA,lsB,lsC]
      refine tkP 9 (.tuple #[.agg #[.int .i64 z3.p.lsn,.int .i64 z3.p.kind,.int .i64 z3.p.level,.int .i64 z3.p.right,.string z3.p.high,.slice z3.ao z3.p.items.length z3.cp],.int .i64 0]) rfl ?_
      refine tkP 10 (.agg #[.int .i64 z3.p.lsn,.int .i64 z3.p.kind,.int .i64 z3.p.level,.int .i64 z3.p.right,.string z3.p.high,.slice z3.ao z3.p.items.length z3.cp]) rfl ?_
      refine tkP 11 (.int .i64 0) rfl ?_
      refine rd1 13 rfl (fun K hK=>?_)
      go_simp
      have HNV:=hide (Pz3.before (Nat.le_refl _) HZA.out.lt HOA.out HY1.out HZ7.out HA3.out)
      refine hK.out _ _ (HNV.out.only) (fun hHeld=>?_)
      clear hK K
      try simp only [Act.put,lsA,lsB,lsC]
      refine tkP 14 (.int .i64 0) rfl ?_
      refine dnN ?_
      go_wp2_with fail
      go_meet
      exact ⟨_,z3,rfl,rfl,HNV.out,HZ3.out⟩
    -- r10}
  case rest=>
    obtain ⟨b3,z3,rfl,rfl,HZ3⟩:=hcut
    have HOW6:=hide (own_keptJ HOW5.out HZ3.out.1.only (fun _ _ h=>h))
    have HO6:=hide (o2 HO5.out HZ3.out.1.only)
    have HA16:=hide (HA1b.out.more HZ3.out.1.only)
    have HA26:=hide (HA2b.out.more HZ3.out.1.only)
    have HA36:=hide (HZ3.out.1.at_.old)
    obtain ⟨p0,p1,p2,p3,p4,p5,_⟩:=HZ3.out.1.pag
    have HI7:Hid (Rg (wc.alloc (.cells #[.int .i64 1,.int .i64 z3.p.lsn,.int .i64 z3.p.kind,.int .i64 z3.p.level,.int .i64 z3.p.right,.string z3.p.high,.slice z3.ao z3.p.items.length z3.cp] 253)) wc.heap.size 0 (imc 1 z3)):=Rg.new wc #[.int .i64 1,.int .i64 z3.p.lsn,.int .i64 z3.p.kind,.int .i64 z3.p.level,.int .i64 z3.p.right,.string z3.p.high,.slice z3.ao z3.p.items.length z3.cp] 253
    have HAL7:=hide (onlyA wc (.cells #[.int .i64 1,.int .i64 z3.p.lsn,.int .i64 z3.p.kind,.int .i64 z3.p.level,.int .i64 z3.p.right,.string z3.p.high,.slice z3.ao z3.p.items.length z3.cp] 253))
    obtain ⟨g',c',w8,hr8,how8,hon8,hg8⟩:=im_append _ _ _ _ _ _ (own_keptJ HOW6.out HAL7.out (fun _ _ h=>h)) wc.heap.size 1 z3 HI7.out (by omega) (Nat.le_trans HO6.out.size HAL7.out.size)
    have HR8:=hide hr8
    have HX8:=hide (And.intro how8 (And.intro hon8 hg8))
    clear hr8 how8 hon8 hg8 HI7
    go_wp2_with (at_builtin; go_must (refine Lib.wpList_append_run _ rfl _ _ _ _ rfl _ _ rfl rfl _ _ HR8.out ?_))
    go_ret2
    obtain ⟨⟨_,_,_⟩,ao3,cp3,rfl⟩:=HZ3.out
    obtain ⟨rfl,rfl⟩:=HZ.out
    obtain rfl:=HJ.out
    obtain rfl:=HI.out
    have hA1:=((HA16.out.old.more HAL7.out).kept HX8.out.2.1 (fun k hk e=>hk.1.2 e)).mono (Q:=fun k=>w.heap.size≤k∧k≠g') (fun k hk=>⟨hk.1.1,by have h1:=hk.1.2; have h2:=hk.2; have h3:=HAL7.out.size; rcases HX8.out.2.2 with q | q <;> omega⟩)
    have hA2:=((HA26.out.old.more HAL7.out).kept HX8.out.2.1 (fun k hk e=>hk.1.2 e)).mono (Q:=fun k=>w.heap.size≤k∧k≠g') (fun k hk=>⟨hk.1.1,by have h1:=hk.1.2; have h2:=hk.2; have h3:=HAL7.out.size; rcases HX8.out.2.2 with q | q <;> omega⟩)
    have hb5:b < w5.heap.size:=(World.ownsRow.lt HOW5.out b rfl).2
    have hA3:=((HA36.out.more HAL7.out).kept HX8.out.2.1 (fun k hk e=>by have:=hk.1; omega)).mono (Q:=fun k=>w.heap.size≤k∧k≠g') (fun k hk=>⟨Nat.le_trans HO5.out.size hk.1,by have h1:=hk.1; have h2:=hk.2; have h3:=HAL7.out.size; rcases HX8.out.2.2 with q | q <;> omega⟩)
    exact ⟨g',c',ao1,cp1,ao2,cp2,ao3,cp3,rfl,HX8.out.1,hA1,hA2,hA3,(o2 HO6.out HAL7.out).trans HX8.out.2.1 (fun k hk e=>by have:=HNB.out; omega)⟩
structure Gd (X:Nd):Prop where
  lvl:X.lv≤255
  rt:X.rt≤65535
  ok:∃ lo,X.Ok lo
  kok:X.Kok
theorem Gd.nm {X:Nd} (h:Gd X) {w:World} {B:Nat} {ao:Option Addr} (hs:Strs w B ao X.items):Nm w X B ao:=⟨hs,h.lvl,h.rt,h.ok,h.kok⟩
set_option maxHeartbeats 3200000 in
theorem layInto_left (w:World) (base b n c:Nat) (m1 m2:Int) (L R:Nd) (ao1 ao2:Option Addr) (cp1 cp2:Nat) (C3:List Value) (s:ByteArray) (e:En) (k:Int) (P:Nat→Prop) (hn:2≤n) (hr:w.ownsRow base 253 7 (.slice (some ⟨b,0,none⟩) n c) n (imc m1 (L.z 0 ao1 cp1)++imc m2 (R.z 0 ao2 cp2)++C3)) (hL:Gd L)  (hA1:At w P (L.z 0 ao1 cp1))   (hs:brd L.lv s=some (e,k)) (he:e.ok=true) (hy:byd L.hi e=false) (hb:¬ L.bad e) (hz:(L.ins e k).size≤512) :
    Calls Tryz.prog 174 #[.slice (some ⟨b,0,none⟩) n c,.string s] w fun x w'=>x=.returned (.int .i64 0)∧∃ ao' cp',w'.ownsRow base 253 7 (.slice (some ⟨b,0,none⟩) n c) n (imc m1 ((L.ins e k).z 0 ao' cp')++imc m2 (R.z 0 ao2 cp2)++C3)∧At w' (fun k=>w.heap.size≤k) ((L.ins e k).z 0 ao' cp')∧Only (fun k=>k=b) w w':=by
  have HIB:Hid (∀ W,Only (fun _=>False) w W→Calls Tryz.prog 187 #[.agg #[.int .i64 0,.int .i64 3,.int .i64 L.lv,.int .i64 L.rt,.string (hiB L.hi),.slice ao1 L.items.length cp1],.string s] W fun x w'=>x=.returned (.bool false)∧Only (fun _=>False) W w'):=fun W ho=>by
    obtain ⟨B,hS,_⟩:=hA1.strs
    have h:=isBeyondB_nd W 0 L s e k B cp1 ao1 (hL.nm (hS.more ho)) hs he
    rw [hy] at h
    exact h
  have HWI:Hid (∀ W,Only (fun _=>False) w W→Calls Tryz.prog 57 #[.agg #[.int .i64 0,.int .i64 3,.int .i64 L.lv,.int .i64 L.rt,.string (hiB L.hi),.slice ao1 L.items.length cp1],.string s] W fun x w'=>Res W w' x ((L.ins e k).pg 0) 0):=fun W ho=>by
    obtain ⟨B,hS,_⟩:=hA1.strs
    have h:=with_nd W 0 L s B cp1 ao1 (hL.nm (hS.more ho)) hA1.fit
    rw [hs] at h
    unfold Nd.wiP Nd.wiK at h
    simp only [] at h
    rw [if_neg hb,if_neg (by omega),if_neg hb,if_neg (by omega)] at h
    exact h
  have HRG:=hide (own_rg hr)
  have HRW:=hide hr
  have HN:Hid (2≤n):=hn
  clear hL hA1 hs he hy hb hz hr
  obtain ⟨z1,hz1⟩:=exq (L.z 0 ao1 cp1)
  obtain ⟨z2,hz2⟩:=exq (R.z 0 ao2 cp2)
  have HIB2:Hid (∀ W,Only (fun _=>False) w W→Calls Tryz.prog 187 #[.agg (L.z 0 ao1 cp1).ar,.string s] W fun x w'=>x=.returned (.bool false)∧Only (fun _=>False) W w'):=HIB
  have HWI2:Hid (∀ W,Only (fun _=>False) w W→Calls Tryz.prog 57 #[.agg (L.z 0 ao1 cp1).ar,.string s] W fun x w'=>Res W w' x ((L.ins e k).pg 0) 0):=HWI
  clear HIB HWI
  rw [hz1] at HIB2 HRG HRW HWI2
  rw [hz2] at HRG HRW ⊢
  clear hz1 hz2
  unfold Pz.ar at HIB2 HWI2
  have hn0:¬ (n:Int)≤0:=by have:=HN.out; omega
  have hn1:(0:Int) < (n:Int):=by have:=HN.out; omega
  have hn2:¬ (n:Int)≤1:=by have:=HN.out; omega
  have hn3:(1:Int) < (n:Int):=by have:=HN.out; omega
  obtain ⟨Q,hQ⟩:=exq ((L.ins e k).pg 0)
  have HQ:=hide hQ
  rw [hQ] at HWI2
  clear hQ hn
  have p0:=HRG.out.cell 1 (.int .i64 z1.p.lsn) rfl
  have p1:=HRG.out.cell 2 (.int .i64 z1.p.kind) rfl
  have p2:=HRG.out.cell 3 (.int .i64 z1.p.level) rfl
  have p3:=HRG.out.cell 4 (.int .i64 z1.p.right) rfl
  have p4:=HRG.out.cell 5 (.string z1.p.high) rfl
  have p5:=HRG.out.cell 6 (.slice z1.ao z1.p.items.length z1.cp) rfl
  rw [Nat.zero_add] at p0 p1 p2 p3 p4 p5
  go_enter Tryz.func174,Tryz.ntmps174
  go_wp2_with fail
  refine (HIB2.out _ (Only.refl _ _)).mono ?_
  rintro x w1 ⟨rfl,ho⟩
  have HO1:=hide ho
  have HRG1:=hide (HRG.out.more ho)
  have HRW1:=hide (own_keptJ HRW.out ho (fun _ _ h=>h))
  clear ho p0 p1 p2 p3 p4 p5 HRG HRW HIB2
  have p0:=HRG1.out.cell 1 (.int .i64 z1.p.lsn) rfl
  have p1:=HRG1.out.cell 2 (.int .i64 z1.p.kind) rfl
  have p2:=HRG1.out.cell 3 (.int .i64 z1.p.level) rfl
  have p3:=HRG1.out.cell 4 (.int .i64 z1.p.right) rfl
  have p4:=HRG1.out.cell 5 (.string z1.p.high) rfl
  have p5:=HRG1.out.cell 6 (.slice z1.ao z1.p.items.length z1.cp) rfl
  rw [Nat.zero_add] at p0 p1 p2 p3 p4 p5
  go_wp2_with fail
  refine (HWI2.out _ HO1.out).mono ?_
  rintro x w2 ⟨B5,ao5,cp5,rfl,hS5,hF5,ho5,hB5⟩
  have HO2:=hide (o2 HO1.out ho5)
  have HRG2:=hide (HRG1.out.more ho5)
  have HRW2:=hide (own_keptJ HRW1.out ho5 (fun _ _ h=>h))
  have HS5:Hid (At w2 (fun k=>w.heap.size≤k∧k≠b) ⟨Q,ao5,cp5⟩):=⟨⟨B5,hS5,fun h0=>⟨Nat.le_trans HO1.out.size (hB5 h0),by have h1:=hB5 h0; have h2:=HRG1.out.lt; omega⟩⟩,hF5⟩
  clear hS5 hF5 ho5 hB5 p0 p1 p2 p3 p4 p5 HRG1 HRW1 HO1 HWI2
  go_upto_region 5 with fail
  have HPG:=hide (Pag.new w2 (.int .i64 Q.lsn) (.int .i64 Q.kind) (.int .i64 Q.level) (.int .i64 Q.right) (.string Q.high) (.slice ao5 Q.items.length cp5))
  have HAL:=hide (onlyA w2 (.cells #[.int .i64 Q.lsn,.int .i64 Q.kind,.int .i64 Q.level,.int .i64 Q.right,.string Q.high,.slice ao5 Q.items.length cp5] 37))
  obtain ⟨w3,hw3⟩:=exq (w2.alloc (.cells #[.int .i64 Q.lsn,.int .i64 Q.kind,.int .i64 Q.level,.int .i64 Q.right,.string Q.high,.slice ao5 Q.items.length cp5] 37))
  rw [hw3] at HPG HAL ⊢
  clear hw3
  obtain ⟨g,hg⟩:=exq (w2.heap.size)
  rw [hg] at HPG ⊢
  clear hg
  have HRG3:=hide (HRG2.out.more HAL.out)
  have HRW3:=hide (own_keptJ HRW2.out HAL.out (fun _ _ h=>h))
  have HS3:=hide (HS5.out.more HAL.out)
  have HO3:=hide (o2 HO2.out HAL.out)
  obtain ⟨q0,q1,q2,q3,q4,q5,_⟩:=HPG.out
  have p0:=HRG3.out.cell 1 (.int .i64 z1.p.lsn) rfl
  have f0:=HRG3.out.fr 1 (by simp [imc,Pz.c])
  have p1:=HRG3.out.cell 2 (.int .i64 z1.p.kind) rfl
  have f1:=HRG3.out.fr 2 (by simp [imc,Pz.c])
  have p2:=HRG3.out.cell 3 (.int .i64 z1.p.level) rfl
  have f2:=HRG3.out.fr 3 (by simp [imc,Pz.c])
  have p3:=HRG3.out.cell 4 (.int .i64 z1.p.right) rfl
  have f3:=HRG3.out.fr 4 (by simp [imc,Pz.c])
  have p4:=HRG3.out.cell 5 (.string z1.p.high) rfl
  have f4:=HRG3.out.fr 5 (by simp [imc,Pz.c])
  have p5:=HRG3.out.cell 6 (.slice z1.ao z1.p.items.length z1.cp) rfl
  have f5:=HRG3.out.fr 6 (by simp [imc,Pz.c])
  rw [Nat.zero_add] at p0 p1 p2 p3 p4 p5 f0 f1 f2 f3 f4 f5
  go_wp2_with fail
  go_ret
  obtain rfl:=HQ.out
  have hp:=own_put (c1:=[.int .i64 m1]) (c2:=z1.c) (c3:=imc m2 z2++C3) (by have h:=HRW3.out; simpa [imc] using h) (((L.ins e k).z 0 ao5 cp5).c) rfl
  have hS:=(HS3.out.kept (only_setCells b (((L.ins e k).z 0 ao5 cp5).c) 1 w3) (fun k hk=>hk.2)).mono (Q:=fun k=>w.heap.size≤k) (fun k hk=>hk.1)
  have hp2:(w3.setCells b 1 (((L.ins e k).z 0 ao5 cp5).c)).ownsRow base 253 7 (.slice (some ⟨b,0,none⟩) n c) n (imc m1 ((L.ins e k).z 0 ao5 cp5)++imc m2 z2++C3):=by simpa [imc] using hp
  exact ⟨rfl,ao5,cp5,hp2,hS,(HO3.out.mono (fun _ _ h=>h.elim)).trans (only_setCells b (((L.ins e k).z 0 ao5 cp5).c) 1 w3) (fun _ _ h=>h)⟩
set_option maxHeartbeats 3200000 in
theorem layInto_right (w:World) (base b n c:Nat) (m1 m2:Int) (L R:Nd) (ao1 ao2:Option Addr) (cp1 cp2:Nat) (C3:List Value) (s:ByteArray) (e:En) (k:Int) (P:Nat→Prop) (hn:2≤n) (hr:w.ownsRow base 253 7 (.slice (some ⟨b,0,none⟩) n c) n (imc m1 (L.z 0 ao1 cp1)++imc m2 (R.z 0 ao2 cp2)++C3)) (hL:Gd L) (hR:Gd R) (hA1:At w P (L.z 0 ao1 cp1)) (hA2:At w P (R.z 0 ao2 cp2)) (hv:L.lv=R.lv) (hs:brd L.lv s=some (e,k)) (he:e.ok=true) (hy:byd L.hi e=true) (hb:¬ R.bad e) (hz:(R.ins e k).size≤512) :
    Calls Tryz.prog 174 #[.slice (some ⟨b,0,none⟩) n c,.string s] w fun x w'=>x=.returned (.int .i64 0)∧∃ ao' cp',w'.ownsRow base 253 7 (.slice (some ⟨b,0,none⟩) n c) n (imc m1 (L.z 0 ao1 cp1)++imc m2 ((R.ins e k).z 0 ao' cp')++C3)∧At w' (fun k=>w.heap.size≤k) ((R.ins e k).z 0 ao' cp')∧Only (fun k=>k=b) w w':=by
  have HIB:Hid (∀ W,Only (fun _=>False) w W→Calls Tryz.prog 187 #[.agg #[.int .i64 0,.int .i64 3,.int .i64 L.lv,.int .i64 L.rt,.string (hiB L.hi),.slice ao1 L.items.length cp1],.string s] W fun x w'=>x=.returned (.bool true)∧Only (fun _=>False) W w'):=fun W ho=>by
    obtain ⟨B,hS,_⟩:=hA1.strs
    have h:=isBeyondB_nd W 0 L s e k B cp1 ao1 (hL.nm (hS.more ho)) hs he
    rw [hy] at h
    exact h
  have HWI:Hid (∀ W,Only (fun _=>False) w W→Calls Tryz.prog 57 #[.agg #[.int .i64 0,.int .i64 3,.int .i64 R.lv,.int .i64 R.rt,.string (hiB R.hi),.slice ao2 R.items.length cp2],.string s] W fun x w'=>Res W w' x ((R.ins e k).pg 0) 0):=fun W ho=>by
    obtain ⟨B,hS,_⟩:=hA2.strs
    have h:=with_nd W 0 R s B cp2 ao2 (hR.nm (hS.more ho)) hA2.fit
    rw [hv] at hs
    rw [hs] at h
    unfold Nd.wiP Nd.wiK at h
    simp only [] at h
    rw [if_neg hb,if_neg (by omega),if_neg hb,if_neg (by omega)] at h
    exact h
  have HRG:=hide (own_rg hr)
  have HRW:=hide hr
  have HN:Hid (2≤n):=hn
  clear hL hR hA1 hA2 hs he hy hb hz hr
  obtain ⟨z1,hz1⟩:=exq (L.z 0 ao1 cp1)
  obtain ⟨z2,hz2⟩:=exq (R.z 0 ao2 cp2)
  have HIB2:Hid (∀ W,Only (fun _=>False) w W→Calls Tryz.prog 187 #[.agg (L.z 0 ao1 cp1).ar,.string s] W fun x w'=>x=.returned (.bool true)∧Only (fun _=>False) W w'):=HIB
  have HWI2:Hid (∀ W,Only (fun _=>False) w W→Calls Tryz.prog 57 #[.agg (R.z 0 ao2 cp2).ar,.string s] W fun x w'=>Res W w' x ((R.ins e k).pg 0) 0):=HWI
  clear HIB HWI
  rw [hz1] at HIB2 HRG HRW ⊢
  rw [hz2] at HRG HRW HWI2
  clear hz1 hz2
  unfold Pz.ar at HIB2 HWI2
  have hn0:¬ (n:Int)≤0:=by have:=HN.out; omega
  have hn1:(0:Int) < (n:Int):=by have:=HN.out; omega
  have hn2:¬ (n:Int)≤1:=by have:=HN.out; omega
  have hn3:(1:Int) < (n:Int):=by have:=HN.out; omega
  obtain ⟨Q,hQ⟩:=exq ((R.ins e k).pg 0)
  have HQ:=hide hQ
  rw [hQ] at HWI2
  clear hQ hn hv
  have p0:=HRG.out.cell 1 (.int .i64 z1.p.lsn) rfl
  have p1:=HRG.out.cell 2 (.int .i64 z1.p.kind) rfl
  have p2:=HRG.out.cell 3 (.int .i64 z1.p.level) rfl
  have p3:=HRG.out.cell 4 (.int .i64 z1.p.right) rfl
  have p4:=HRG.out.cell 5 (.string z1.p.high) rfl
  have p5:=HRG.out.cell 6 (.slice z1.ao z1.p.items.length z1.cp) rfl
  rw [Nat.zero_add] at p0 p1 p2 p3 p4 p5
  go_enter Tryz.func174,Tryz.ntmps174
  go_wp2_with fail
  refine (HIB2.out _ (Only.refl _ _)).mono ?_
  rintro x w1 ⟨rfl,ho⟩
  have HO1:=hide ho
  have HRG1:=hide (HRG.out.more ho)
  have HRW1:=hide (own_keptJ HRW.out ho (fun _ _ h=>h))
  clear ho p0 p1 p2 p3 p4 p5 HRG HRW HIB2
  have p0:=HRG1.out.cell 8 (.int .i64 z2.p.lsn) rfl
  have p1:=HRG1.out.cell 9 (.int .i64 z2.p.kind) rfl
  have p2:=HRG1.out.cell 10 (.int .i64 z2.p.level) rfl
  have p3:=HRG1.out.cell 11 (.int .i64 z2.p.right) rfl
  have p4:=HRG1.out.cell 12 (.string z2.p.high) rfl
  have p5:=HRG1.out.cell 13 (.slice z2.ao z2.p.items.length z2.cp) rfl
  rw [Nat.zero_add] at p0 p1 p2 p3 p4 p5
  go_wp2_with fail
  refine (HWI2.out _ HO1.out).mono ?_
  rintro x w2 ⟨B5,ao5,cp5,rfl,hS5,hF5,ho5,hB5⟩
  have HO2:=hide (o2 HO1.out ho5)
  have HRG2:=hide (HRG1.out.more ho5)
  have HRW2:=hide (own_keptJ HRW1.out ho5 (fun _ _ h=>h))
  have HS5:Hid (At w2 (fun k=>w.heap.size≤k∧k≠b) ⟨Q,ao5,cp5⟩):=⟨⟨B5,hS5,fun h0=>⟨Nat.le_trans HO1.out.size (hB5 h0),by have h1:=hB5 h0; have h2:=HRG1.out.lt; omega⟩⟩,hF5⟩
  clear hS5 hF5 ho5 hB5 p0 p1 p2 p3 p4 p5 HRG1 HRW1 HO1 HWI2
  go_upto_region 5 with fail
  have HPG:=hide (Pag.new w2 (.int .i64 Q.lsn) (.int .i64 Q.kind) (.int .i64 Q.level) (.int .i64 Q.right) (.string Q.high) (.slice ao5 Q.items.length cp5))
  have HAL:=hide (onlyA w2 (.cells #[.int .i64 Q.lsn,.int .i64 Q.kind,.int .i64 Q.level,.int .i64 Q.right,.string Q.high,.slice ao5 Q.items.length cp5] 37))
  obtain ⟨w3,hw3⟩:=exq (w2.alloc (.cells #[.int .i64 Q.lsn,.int .i64 Q.kind,.int .i64 Q.level,.int .i64 Q.right,.string Q.high,.slice ao5 Q.items.length cp5] 37))
  rw [hw3] at HPG HAL ⊢
  clear hw3
  obtain ⟨g,hg⟩:=exq (w2.heap.size)
  rw [hg] at HPG ⊢
  clear hg
  have HRG3:=hide (HRG2.out.more HAL.out)
  have HRW3:=hide (own_keptJ HRW2.out HAL.out (fun _ _ h=>h))
  have HS3:=hide (HS5.out.more HAL.out)
  have HO3:=hide (o2 HO2.out HAL.out)
  obtain ⟨q0,q1,q2,q3,q4,q5,_⟩:=HPG.out
  have p0:=HRG3.out.cell 8 (.int .i64 z2.p.lsn) rfl
  have f0:=HRG3.out.fr 8 (by simp [imc,Pz.c])
  have p1:=HRG3.out.cell 9 (.int .i64 z2.p.kind) rfl
  have f1:=HRG3.out.fr 9 (by simp [imc,Pz.c])
  have p2:=HRG3.out.cell 10 (.int .i64 z2.p.level) rfl
  have f2:=HRG3.out.fr 10 (by simp [imc,Pz.c])
  have p3:=HRG3.out.cell 11 (.int .i64 z2.p.right) rfl
  have f3:=HRG3.out.fr 11 (by simp [imc,Pz.c])
  have p4:=HRG3.out.cell 12 (.string z2.p.high) rfl
  have f4:=HRG3.out.fr 12 (by simp [imc,Pz.c])
  have p5:=HRG3.out.cell 13 (.slice z2.ao z2.p.items.length z2.cp) rfl
  have f5:=HRG3.out.fr 13 (by simp [imc,Pz.c])
  rw [Nat.zero_add] at p0 p1 p2 p3 p4 p5 f0 f1 f2 f3 f4 f5
  go_wp2_with fail
  go_ret
  obtain rfl:=HQ.out
  have hp:=own_put (c1:=imc m1 z1++[.int .i64 m2]) (c2:=z2.c) (c3:=C3) (by have h:=HRW3.out; simpa [imc] using h) (((R.ins e k).z 0 ao5 cp5).c) rfl
  have hS:=(HS3.out.kept (only_setCells b (((R.ins e k).z 0 ao5 cp5).c) 8 w3) (fun k hk=>hk.2)).mono (Q:=fun k=>w.heap.size≤k) (fun k hk=>hk.1)
  have hp2:(w3.setCells b 8 (((R.ins e k).z 0 ao5 cp5).c)).ownsRow base 253 7 (.slice (some ⟨b,0,none⟩) n c) n (imc m1 z1++imc m2 ((R.ins e k).z 0 ao5 cp5)++C3):=by have e8:(imc m1 z1++[Value.int .i64 m2]).length=8:=rfl; rw [e8] at hp; simpa [imc] using hp
  exact ⟨rfl,ao5,cp5,hp2,hS,(HO3.out.mono (fun _ _ h=>h.elim)).trans (only_setCells b (((R.ins e k).z 0 ao5 cp5).c) 8 w3) (fun _ _ h=>h)⟩
end Go.Proofs.YtajjakljheafjaaGreat
