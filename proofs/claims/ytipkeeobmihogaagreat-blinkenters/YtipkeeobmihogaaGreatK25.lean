/- Parts. -/
import Derived.Test.YtipkeeobmihogaaGreatK23
import Derived.Test.YtipkeeobmihogaaGreatK18
import Derived.Maps.AppendAt
import Derived.Test.YtipkeeobmihogaaGreatK21
import Derived.Test.YtipkeeobmihogaaGreatK24
import Derived.Deep.Draws
import Derived.Deep.Grids
set_option maxRecDepth 100000
namespace Go.Proofs.YtipkeeobmihogaaGreat
open Go.RowKit
theorem own_keptJ {S:Nat→Prop} {w w':World} {base:Nat} {e:TypeId} {k:Nat} {v:Value} {n:Nat} {xs:List Value} (h:w.ownsRow base e k v n xs) (ho:Only S w w') (hS:∀ b,v.ownBlock=some b→¬ S b):w'.ownsRow base e k v n xs:=by
  obtain ⟨h1,h2⟩:=h
  refine ⟨h1,?_⟩
  rcases h2 with h2 | ⟨g,cap,cur,hv,hg,hh,r⟩
  · exact .inl h2
  · refine .inr ⟨g,cap,cur,hv,hg,?_,r⟩
    rw [ho.block g (Array.getElem?_eq_some_iff.1 hh).1 (hS g (by rw [hv]; rfl))]
    exact hh
theorem own_mono {w:World} {base base':Nat} {e:TypeId} {k:Nat} {v:Value} {n:Nat} {xs:List Value} (h:w.ownsRow base e k v n xs) (hb:base'≤base):w.ownsRow base' e k v n xs:=by
  obtain ⟨h1,h2⟩:=h
  refine ⟨h1,?_⟩
  rcases h2 with h2 | ⟨g,cap,cur,hv,hg,r⟩
  · exact .inl h2
  · exact .inr ⟨g,cap,cur,hv,Nat.le_trans hb hg,r⟩
theorem own_rg {w:World} {base:Nat} {e:TypeId} {k n g cap:Nat} {xs:List Value} (h:w.ownsRow base e k (.slice (some ⟨g,0,none⟩) n cap) n xs):Rg w g 0 xs:=by
  have hl:=h.1
  refine ⟨fun j v hv=>?_,fun j hj=>?_,(World.ownsRow.lt h g rfl).2⟩
  · have hj:=(List.getElem?_eq_some_iff.1 hv).1
    rw [Nat.zero_add,World.ownsRow.cellAt h j (by omega)]
    exact hv
  · rw [Nat.zero_add]
    exact ⟨by rw [World.ownsRow.cellAt h j (by omega),List.getElem?_eq_getElem hj]; rfl,World.ownsRow.frozenAt h j⟩
def setL (xs:List Value):Nat→List Value→List Value
  | _,[]=>xs
  | j,d :: ds=>setL (xs.set j d) (j+1) ds
theorem setL_mid (ds c1 c2 c3:List Value) (hl:ds.length=c2.length):setL (c1++c2++c3) c1.length ds=c1++ds++c3:=by
  induction ds generalizing c1 c2 with
  | nil=>
    have:c2=[]:=List.eq_nil_of_length_eq_zero (by simpa using hl.symm)
    subst this
    simp [setL]
  | cons d ds ih=>
    cases c2 with
    | nil=>simp at hl
    | cons x c2=>
      have e:(c1++x :: c2++c3).set c1.length d=(c1++[d])++c2++c3:=by simp
      have e2:c1.length+1=(c1++[d]).length:=by simp
      rw [setL,e,e2,ih (c1++[d]) c2 (by simpa using hl)]
      simp
theorem own_setL {w:World} {base:Nat} {e:TypeId} {k n g cap:Nat} {xs:List Value} (h:w.ownsRow base e k (.slice (some ⟨g,0,none⟩) n cap) n xs) (j:Nat) (ds:List Value):(w.setCells g j ds).ownsRow base e k (.slice (some ⟨g,0,none⟩) n cap) n (setL xs j ds):=by
  induction ds generalizing w xs j with
  | nil=>exact h
  | cons d ds ih=>
    rw [World.setCells,setL]
    exact ih (h.stored j d).1 (j+1)
theorem own_put {w:World} {base:Nat} {e:TypeId} {k n g cap:Nat} {c1 c2 c3:List Value} (h:w.ownsRow base e k (.slice (some ⟨g,0,none⟩) n cap) n (c1++c2++c3)) (ds:List Value) (hl:ds.length=c2.length):(w.setCells g c1.length ds).ownsRow base e k (.slice (some ⟨g,0,none⟩) n cap) n (c1++ds++c3):=by
  have:=own_setL h c1.length ds
  rwa [setL_mid ds c1 c2 c3 hl] at this
structure Pz where
  p:Pg
  ao:Option Addr
  cp:Nat
def Pz.none:Pz:=⟨Pg.none,Option.none,0⟩
abbrev Pz.ar (z:Pz):Array Value:=#[.int .i64 z.p.lsn,.int .i64 z.p.kind,.int .i64 z.p.level,.int .i64 z.p.right,.string z.p.high,.slice z.ao z.p.items.length z.cp]
def Pz.c (z:Pz):List Value:=z.ar.toList
def imc (n:Int) (z:Pz):List Value:=.int .i64 n :: z.c
structure At (w:World) (P:Nat→Prop) (z:Pz):Prop where
  strs:∃ B,Strs w B z.ao z.p.items∧(0 < z.p.items.length→P B)
  fit:Fit z.ao z.p.items.length z.cp
theorem At.kept {S P:Nat→Prop} {w w':World} {z:Pz} (h:At w P z) (ho:Only S w w') (hS:∀ k,P k→¬ S k):At w' P z:=by
  obtain ⟨⟨B,h1,h2⟩,h3⟩:=h
  exact ⟨⟨B,h1.kept ho (fun h0=>hS B (h2 h0)),h2⟩,h3⟩
theorem At.more {P:Nat→Prop} {w w':World} {z:Pz} (h:At w P z) (ho:Only (fun _=>False) w w'):At w' P z:=h.kept ho (fun _ _ h=>h)
theorem At.mono {w:World} {P Q:Nat→Prop} {z:Pz} (h:At w P z) (hl:∀ k,P k→Q k):At w Q z:=by
  obtain ⟨⟨B,h1,h2⟩,h3⟩:=h
  exact ⟨⟨B,h1,fun h0=>hl B (h2 h0)⟩,h3⟩
theorem At.old {w:World} {P:Nat→Prop} {z:Pz} (h:At w P z):At w (fun k=>P k∧k < w.heap.size) z:=by
  obtain ⟨⟨B,h1,h2⟩,h3⟩:=h
  exact ⟨⟨B,h1,fun h0=>⟨h2 h0,h1.lt h0⟩⟩,h3⟩
theorem Tryz.infoImJ:(Tryz.prog.info? 65).map (fun i=>(i.zero,i.size,i.bytes))=some (some (.agg (imc 0 Pz.none).toArray),7,80):=by kernel_rfl
theorem im_append (w:World) (base g n cap:Nat) (xs:List Value) (h:w.ownsRow base 65 7 (.slice (some ⟨g,0,none⟩) n cap) n xs) (B:Nat) (m:Int) (z:Pz) (hB:Rg w B 0 (imc m z)) (hn:n≤1000000) (hbase:base≤w.heap.size) :
    ∃ g' c' w',(Builtin.append_ #[32,32] 32 #[.slice (some ⟨g,0,none⟩) n cap,.slice (some ⟨B,0,none⟩) 1 1]).run Tryz.prog w=.ok (.slice (some ⟨g',0,none⟩) (n+1) c') w'∧w'.ownsRow base 65 7 (.slice (some ⟨g',0,none⟩) (n+1) c') (n+1) (xs++imc m z)∧Only (fun k=>k=g) w w'∧(g'=g∨g'=w.heap.size):=by
  obtain ⟨i0,hi,hz0,hz1,hz2⟩:=info_parts Tryz.infoImJ
  obtain ⟨v',w',hr,h2,h3,_,h4⟩:=run_append_own_at (P:=Tryz.prog) w base 32 32 65 i0 (.agg (imc 0 Pz.none).toArray) 7 80 Tryz.underlying32 hi hz0 hz1 hz2 rfl (by decide) (.slice (some ⟨g,0,none⟩) n cap) n xs h ⟨B,0,none⟩ 1 1 (imc m z) rfl
    (fun j u hu=>by
      have:=hB.range j u hu
      rwa [add_at]) (by intro u hu; simp [imc,Pz.c] at hu; rcases hu with rfl | rfl | rfl | rfl | rfl | rfl | rfl <;> rfl) (by unfold maxLen; omega) (by omega) hbase
  obtain ⟨g',c',rfl⟩:∃ g' c',v'=.slice (some ⟨g',0,none⟩) (n+1) c':=by
    rcases h2.2 with ⟨_,q⟩ | ⟨g',cap',cur,q,_⟩
    · omega
    · exact ⟨g',cap',q⟩
  refine ⟨g',c',w',hr,h2,Only.grown h3 (fun k hk=>by cases hk; rfl),?_⟩
  rcases h4 with q | q
  · exact .inl (by simpa [Value.ownBlock] using q)
  · exact .inr (by simpa [Value.ownBlock] using q)
def Nd.z (X:Nd) (a:Int) (ao:Option Addr) (cp:Nat):Pz:=⟨X.pg a,ao,cp⟩
theorem Nd.left_items (X:Nd) (j:Nat):(X.left j).items=X.items.take X.half:=by
  show (X.ks.take X.half).map (itB X.lv)=(X.ks.map (itB X.lv)).take X.half
  rw [List.map_take]
theorem Nd.right_leaf {X:Nd} (v:X.lv=0):X.right.items=X.items.drop X.half:=by
  show X.rest.map (itB X.lv)=(X.ks.map (itB X.lv)).drop X.half
  unfold Nd.rest
  rw [if_pos v,List.map_drop]
theorem Nd.right_inner {X:Nd} (v:0 < X.lv):X.right.items=noE.encS (X.ks.getD X.half (noE,0)).2 :: X.items.drop (X.half+1):=by
  show X.rest.map (itB X.lv)=_ :: (X.ks.map (itB X.lv)).drop (X.half+1)
  unfold Nd.rest
  rw [if_neg (by omega),List.map_cons,List.map_drop]
  congr 1
  unfold itB
  rw [if_neg (by omega)]
theorem Nd.rest_len {X:Nd} (hn:2≤X.ks.length):X.rest.length=X.ks.length - X.half:=by
  have hh:=Nd.half_lt hn
  unfold Nd.rest
  by_cases v:X.lv=0
  · rw [if_pos v,List.length_drop]
  · rw [if_neg v,List.length_cons,List.length_drop]; omega
def SpR (w w':World) (x:Ending) (a:Int) (X:Nd) (j:Nat):Prop :=
  ∃ ao1 cp1 ao2 cp2,x=.returned (.tuple #[.agg ((X.left j).z a ao1 cp1).ar,.agg (X.right.z a ao2 cp2).ar,X.bord.agg,.int .i64 0])∧At w' (fun k=>w.heap.size≤k) ((X.left j).z a ao1 cp1)∧At w' (fun k=>w.heap.size≤k) (X.right.z a ao2 cp2)∧Only (fun _=>False) w w'
theorem Nm.kokL {X:Nd} (h:X.Kok) (j:Nat):(X.left j).Kok:=fun v k hk=>h v k (List.mem_of_mem_take hk)
theorem Nm.kokR {X:Nd} (h:X.Kok) (hn:2≤X.ks.length):X.right.Kok:=by
  intro v k hk
  rcases Nd.rest_mem hn (show k ∈ X.rest from hk) with q | ⟨_,h1,rfl⟩
  · exact h v k q
  · exact h v (X.ks[X.half]) (List.getElem_mem h1)
theorem hiB_ok {e:En} (h:e.ok=true):hiB e=e.enc:=by unfold hiB; rw [if_neg (En.ok_ne h)]
theorem split_nd (w:World) (a:Int) (X:Nd) (j B cp:Nat) (ao:Option Addr) (hP:Nm w X B ao) (hF:Fit ao X.items.length cp) (hj:okC j=true) (hn:2≤X.ks.length) :
    Calls Tryz.prog 49 #[.agg #[.int .i64 a,.int .i64 3,.int .i64 X.lv,.int .i64 X.rt,.string (hiB X.hi),.slice ao X.items.length cp],.int .i64 j] w fun x w'=>SpR w w' x a X j:=by
  obtain ⟨lo,hok⟩:=hP.ok
  have hb:=(hok.bord hn).1
  have hh:=Nd.half_lt hn
  have hil:=Nd.items_len X
  have ehalf:(X.items.length+1) / 2=X.half:=by rw [hil]; rfl
  have rl:=Nd.rest_len hn
  have eL:∀ ao1 cp1,((X.left j).z a ao1 cp1).ar=#[.int .i64 a,.int .i64 3,.int .i64 X.lv,.int .i64 j,.string X.bord.enc,.slice ao1 X.half cp1]:=by
    intro ao1 cp1
    have l1:(X.left j).items.length=X.half:=by rw [Nd.left_items,List.length_take]; omega
    show (#[.int .i64 a,.int .i64 3,.int .i64 X.lv,.int .i64 j,.string (hiB X.bord),.slice ao1 (X.left j).items.length cp1]:Array Value)=_
    rw [l1,hiB_ok hb]
  have eR:∀ ao2 cp2,(X.right.z a ao2 cp2).ar=#[.int .i64 a,.int .i64 3,.int .i64 X.lv,.int .i64 X.rt,.string (hiB X.hi),.slice ao2 (X.items.length - X.half) cp2]:=by
    intro ao2 cp2
    have l1:X.right.items.length=X.items.length - X.half:=by rw [Nd.items_len]; show X.rest.length=_; omega
    show (#[.int .i64 a,.int .i64 3,.int .i64 X.lv,.int .i64 X.rt,.string (hiB X.hi),.slice ao2 X.right.items.length cp2]:Array Value)=_
    rw [l1]
  have fin:∀ (x:Ending) (w':World),SplN w w' x a X.lv X.rt (hiB X.hi) j X.items X.half (X.items.length - X.half) X.bord X.right.items→SpR w w' x a X j:=by
    rintro x w' ⟨B1,ao1,cp1,B2,ao2,cp2,rfl,s1,s2,f1,f2,n1,n2,ho⟩
    refine ⟨ao1,cp1,ao2,cp2,by rw [eL,eR],⟨⟨B1,?_,fun _=>n1⟩,?_⟩,⟨⟨B2,s2,fun _=>n2⟩,?_⟩,ho⟩
    · show Strs w' B1 ao1 (X.left j).items
      rw [Nd.left_items]; exact s1
    · show Fit ao1 (X.left j).items.length cp1
      rw [Nd.left_items,List.length_take,Nat.min_eq_left (by omega)]; exact f1
    · show Fit ao2 X.right.items.length cp2
      rw [Nd.items_len]
      show Fit ao2 X.rest.length cp2
      rw [rl,← hil]; exact f2
  rcases Nat.eq_zero_or_pos X.lv with v | v
  · have h:=split_leaf w a X.rt (hiB X.hi) X.hi j B cp ao X.items X.es (hP.lp v) hF hj (by omega)
    rw [v,Int.ofNat_zero]
    refine h.mono (fun x w' q=>fin x w' ?_)
    rw [ehalf] at q
    rw [v,Int.ofNat_zero,Nd.right_leaf v]
    have e:X.es.getD (X.half - 1) noE=X.bord:=by
      unfold Nd.bord
      rw [if_pos v]
      unfold Nd.es
      rw [List.getD_eq_getElem?_getD,List.getD_eq_getElem?_getD,List.getElem?_map]
      cases X.ks[X.half - 1]? <;> rfl
    rw [e] at q
    exact q
  · have h:=split_inner w a X.lv X.rt (hiB X.hi) X.hi j B cp ao X.items X.ks (hP.ip v) hF hj (by omega)
    refine h.mono (fun x w' q=>fin x w' ?_)
    rw [ehalf] at q
    rw [Nd.right_inner v]
    have e:(X.ks.getD X.half (noE,0)).1=X.bord:=by
      unfold Nd.bord
      rw [if_neg (by omega)]
    rw [e] at q
    exact q
theorem root_nd (w:World) (X:Nd) (i j:Nat) (hv:X.lv+1≤255) (hi:okC i=true) (hj:okC j=true) (hb:X.bord.ok=true) :
    Calls Tryz.prog 50 #[.int .i64 ((X.lv:Int)+1),.int .i64 i,X.bord.agg,.int .i64 j] w fun x w'=>∃ ao cp,x=.returned (.tuple #[.agg ((X.over i j).z 0 ao cp).ar,.int .i64 0])∧At w' (fun k=>w.heap.size≤k) ((X.over i j).z 0 ao cp)∧Only (fun _=>False) w w':=by
  refine (root_ok w ((X.lv:Int)+1) i j X.bord ⟨by omega,by omega⟩ hi hj hb).mono ?_
  rintro x w' ⟨B,ao,cp,rfl,hs,hf,ho,hB⟩
  have q1:itB (X.lv+1) (noE,(i:Int))=noE.encS i:=by unfold itB; rw [if_neg (by omega)]
  have q2:itB (X.lv+1) (X.bord,(j:Int))=X.bord.encS j:=by unfold itB; rw [if_neg (by omega)]
  have ei:(X.over i j).items=[noE.encS i,X.bord.encS j]:=by
    show [itB (X.lv+1) (noE,(i:Int)),itB (X.lv+1) (X.bord,(j:Int))]=_
    rw [q1,q2]
  refine ⟨ao,cp,?_,⟨⟨B,?_,?_⟩,?_⟩,ho⟩
  · show _=Ending.returned (.tuple #[.agg #[.int .i64 0,.int .i64 3,.int .i64 ((X.lv+1:Nat):Int),.int .i64 0,.string (hiB noE),.slice ao (X.over i j).items.length cp],.int .i64 0])
    rw [ei]
    rfl
  · show Strs w' B ao (X.over i j).items
    rw [ei]; exact hs
  · intro _
    exact hB (by simp)
  · show Fit ao (X.over i j).items.length cp
    rw [ei]; exact hf
def Nd.nl (X:Nd) (e:En) (k:Int) (j:Nat):Nd:=if byd X.bord e=true then X.left j else (X.left j).ins e k
def Nd.nr (X:Nd) (e:En) (k:Int):Nd:=if byd X.bord e=true then X.right.ins e k else X.right
theorem Nd.good {X:Nd} {e:En} (h:¬ X.bad e):e.ok=true∧e ∉ X.es∧(X.lv=0→byd X.hi e=false)∧(0 < X.lv→blw X.hi e=true):=by
  unfold Nd.bad at h
  refine ⟨?_,fun q=>h (.inr (.inl q)),fun v=>?_,fun v=>?_⟩
  · cases k:e.ok
    · exact absurd (.inl k) h
    · rfl
  · cases k:byd X.hi e
    · rfl
    · exact absurd (.inr (.inr (.inl ⟨v,k⟩))) h
  · cases k:blw X.hi e
    · exact absurd (.inr (.inr (.inr ⟨v,k⟩))) h
    · rfl
theorem Nd.not_bad {X:Nd} {e:En} (h1:e.ok=true) (h2:e ∉ X.es) (h3:X.lv=0→byd X.hi e=false) (h4:0 < X.lv→blw X.hi e=true):¬ X.bad e:=by
  rintro (q | q | ⟨v,q⟩ | ⟨v,q⟩)
  · rw [h1] at q; cases q
  · exact h2 q
  · rw [h3 v] at q; cases q
  · rw [h4 v] at q; cases q
theorem Nd.right_es {X:Nd} (hn:2≤X.ks.length) {e:En} (he:e ∈ X.right.es):e ∈ X.es∨e=noE:=by
  obtain ⟨k,hk,rfl⟩:=List.mem_map.1 he
  rcases Nd.rest_mem hn (show k ∈ X.rest from hk) with q | ⟨_,_,q⟩
  · exact .inl (List.mem_map_of_mem q)
  · exact .inr (by rw [q])
theorem Nd.Ok.bord_mem {X:Nd} (v:0 < X.lv) (hn:2≤X.ks.length):X.bord ∈ X.es:=by
  obtain ⟨h1,e⟩:=Nd.bord_inner v hn
  rw [e]
  exact List.mem_map_of_mem (List.getElem_mem h1)
section
variable {X:Nd} {lo e:En} {k:Int}
theorem Nd.Ok.two (h:X.Ok lo) (hk:X.Kok) (hb:¬ X.bad e) (hc:0 < X.lv→okC k=true) (hf:512 < (X.ins e k).size):13≤X.ks.length∧(X.hi=noE→14≤X.ks.length):=by
  rw [Nd.ins_size] at hf
  exact h.full hk (Nd.good hb).1 hc hf
theorem Nd.Ok.fitsL (h:X.Ok lo) (hk:X.Kok) (hb:¬ X.bad e) (hc:0 < X.lv→okC k=true) (hf:512 < (X.ins e k).size) (hy:byd X.bord e=false) (j:Nat):¬ (X.left j).bad e∧((X.left j).ins e k).size≤512:=by
  obtain ⟨g1,g2,g3,g4⟩:=Nd.good hb
  have hn:2≤X.ks.length:=by have:=(h.two hk hb hc hf).1; omega
  have ho:=(h.bord hn).1
  refine ⟨Nd.not_bad g1 (fun q=>?_) (fun _=>hy) (fun v=>?_),?_⟩
  · obtain ⟨x,hx,rfl⟩:=List.mem_map.1 q
    exact g2 (List.mem_map_of_mem (List.mem_of_mem_take hx))
  · refine blw_yes.2 (.inr ?_)
    show e.lt X.bord
    have v':0 < X.lv:=v
    have ne:e≠X.bord:=fun q=>g2 (by rw [q]; exact Nd.Ok.bord_mem v' hn)
    rcases En.lt_total ne with q | q
    · exact q
    · rcases byd_no.1 hy with z | z
      · exact absurd z (En.ok_ne ho)
      · exact absurd q z
  · rw [Nd.ins_size]
    have a:=h.left_size hk hn j
    have b:=item_up (v:=X.lv) (e:=e) (c:=k) g1 hc
    show (X.left j).size+(2+(itB X.lv (e,k)).size)≤512
    by_cases v:X.lv=0
    · rw [if_pos v] at a
      have:=b.2 v
      omega
    · rw [if_neg v] at a
      have:=b.1
      omega
theorem Nd.Ok.fitsR (h:X.Ok lo) (hk:X.Kok) (hb:¬ X.bad e) (hc:0 < X.lv→okC k=true) (hf:512 < (X.ins e k).size):¬ X.right.bad e∧(X.right.ins e k).size≤512:=by
  obtain ⟨g1,g2,g3,g4⟩:=Nd.good hb
  have h13:=(h.two hk hb hc hf).1
  have hn:2≤X.ks.length:=by omega
  refine ⟨Nd.not_bad g1 (fun q=>?_) g3 g4,?_⟩
  · rcases Nd.right_es hn q with z | z
    · exact g2 z
    · exact En.ok_ne g1 z
  · rw [Nd.ins_size]
    have a:=(h.right_size hk hn).2 (by omega)
    have b:=(item_up (v:=X.lv) (e:=e) (c:=k) g1 hc).1
    show X.right.size+(2+(itB X.lv (e,k)).size)≤512
    omega
end
end Go.Proofs.YtipkeeobmihogaaGreat
namespace Go.Proofs.YtipkeeobmihogaaGreat
open Go.ChangeShapes Go.WideShapes Go.ChangeAt Go.RowKit Go.Deep
theorem Tryz.cellsInts:Tryz.prog.cellsOf 25=1:=by kernel_rfl
theorem Tryz.bytesInt:Tryz.prog.bytesOf 3=8:=by kernel_rfl
theorem add0 (a:Addr):a.add 0=a:=by unfold Addr.add; simp
theorem slice_reach {H:Type} {enc:TypeId × Value→H} {W:World} {t e:TypeId} {c:Value} {x:DataW H × List MemPlace} {n:Nat} (ht:Tryz.prog.underlying t=some (.slice e)) (h:DataW.trod enc Tryz.prog W 0 (fun _=>true) true n t [c]=some x) (hw:∀ m ∈ x.1.weights Tryz.prog t,m≤reachBytes) (hb:8≤Tryz.prog.bytesOf e) :
    c=.slice none 0 0∨∃ (a:Addr) (len cap m:Nat) (D:Nat→DataW H) (Pl:Nat→List MemPlace),c=.slice (some a) len cap∧len≤cap∧cap≤maxLen∧cap≤17592186043904 ∧
      (∀ i,i < cap→∃ cs',W.cells? 0 (a.add (i * Tryz.prog.cellsOf e)) (Tryz.prog.cellsOf e)=some cs'∧DataW.trod enc Tryz.prog W 0 (fun _=>true) true m e cs'=some (D i,Pl i)) ∧
      (∀ i,i < len→∀ k ∈ (D i).weights Tryz.prog e,k≤reachBytes):=by
  rcases open_slice ht h with ⟨hcs,hx⟩ | ⟨a',len',cap',m,n',D,Pl,hcs,hb',hl,hm,hmm,hx,hit⟩
  · simp at hcs
    exact .inl hcs
  · simp at hcs hmm
    subst hmm
    have hwr:reachBytes=140737488351232:=by decide
    rw [hx] at hw
    simp only [DataW.weights,ht] at hw
    have hwb:=hw ((((List.range len').map D).length+((List.range (m - len')).map fun j=>D (len'+j)).length) * Tryz.prog.bytesOf e) (by simp)
    simp only [List.length_map,List.length_range] at hwb
    have h8:(len'+(m - len')) * 8≤(len'+(m - len')) * Tryz.prog.bytesOf e:=Nat.mul_le_mul_left _ hb
    refine .inr ⟨a',len',m,n',D,Pl,hcs,hl,hm,by omega,hit,fun i hi k hk=>?_⟩
    refine hw k (List.mem_cons_of_mem _ (List.mem_append.2 (.inl (weightsAll_mem (d:=D i) (List.mem_map.2 ⟨i,List.mem_range.2 hi,rfl⟩) hk))))
theorem zs_of_trod {H:Type} {enc:TypeId × Value→H} {W:World} {c:Value} {x:DataW H × List MemPlace} {n:Nat} (h:DataW.trod enc Tryz.prog W 0 (fun _=>true) true n 25 [c]=some x) (hw:∀ m ∈ x.1.weights Tryz.prog 25,m≤reachBytes) :
    ∃ (B:Nat) (ao:Option Addr) (cp:Nat) (l:List Int),c=.slice ao l.length cp∧Zs W B ao l∧Fit ao l.length cp:=by
  rcases slice_reach Tryz.underlying25 h hw (by rw [Tryz.bytesInt]; decide) with rfl | ⟨a,len,cap,m,D,Pl,rfl,hl,hm,hc,hit,_⟩
  · exact ⟨0,none,0,[],rfl,Zs.nil _ _ _,⟨fun _=>rfl,by simp,by simp⟩⟩
  · have one:∀ i,i < cap→∃ z:Int,W.cell? (a.add i)=some (.int .i64 z):=fun i hi=>by
      obtain ⟨cs',h1,h2⟩:=hit i hi
      rw [Tryz.cellsInt] at h1
      obtain ⟨_,hlen,hcell⟩:=World.cells?_some h1
      match cs',hlen with
      | [v0],_=>
        obtain ⟨z,e0,_,_⟩:=DataW.trod_int Tryz.underlying3 h2
        simp at e0
        subst e0
        have c0:=hcell 0 (by omega)
        rw [add0,Nat.mul_one] at c0
        exact ⟨z,by simpa using c0⟩
    obtain ⟨q,hq⟩:=choose_lt (n:=cap) one
    have hlen:((List.range len).map q).length=len:=by simp
    refine ⟨a.block,some a,cap,(List.range len).map q,by rw [hlen],⟨fun h0=>?_,fun h0=>?_,by rw [hlen]; omega⟩,⟨(fun h=>by cases h),(by rw [hlen]; exact hl),hm⟩⟩
    · rw [hlen] at h0
      have c0:=hq 0 (by omega)
      rw [add0] at c0
      have ha:=cell_spot c0
      refine ⟨a.off,by rw [← ha],fun j hj=>?_⟩
      rw [hlen] at hj
      have cj:=hq j (by omega)
      rw [ha,add_at] at cj
      rw [cj]
      simp
    · rw [hlen] at h0
      have c0:=hq 0 (by omega)
      rw [add0] at c0
      exact World.block_lt_of_cell? W _ c0
end Go.Proofs.YtipkeeobmihogaaGreat
