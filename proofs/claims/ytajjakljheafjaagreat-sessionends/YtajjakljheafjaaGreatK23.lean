/- Parts. -/
import Derived.Test.YtajjakljheafjaaGreatK20
import Derived.Maps.AppendAt
import Derived.Carry
import Derived.Deep.DeepCutAuto
set_option maxRecDepth 100000
namespace Go.Proofs.YtajjakljheafjaaGreat
open Go.RowKit
def Nd.need (X:Nd) (page:Int):Option (En × Int)→Int × Int
  | none=>(0,140)
  | some k=>if X.std k.1=true then (0,150) else if X.wiK (some k)=3 then (if page=1 then 2 else 1,0) else (0,X.wiK (some k))
set_option maxHeartbeats 3200000 in
theorem need_nd (w:World) (a page:Int) (X:Nd) (s:ByteArray) (B cp:Nat) (ao:Option Addr) (hP:Nm w X B ao) (hF:Fit ao X.items.length cp) (ha:0≤a∧a < 9223372036854775808) :
    Calls Tryz.prog 29 #[.agg #[.int .i64 a,.int .i64 3,.int .i64 X.lv,.int .i64 X.rt,.string (hiB X.hi),.slice ao X.items.length cp],.int .i64 page,.string s] w fun x w'=>x=.returned (.tuple #[.int .i64 (X.need page (brd X.lv s)).1,.int .i64 (X.need page (brd X.lv s)).2])∧Only (fun _=>False) w w':=by
  have HP:=hide (Pag.new w (.int .i64 a) (.int .i64 3) (.int .i64 X.lv) (.int .i64 X.rt) (.string (hiB X.hi)) (.slice ao X.items.length cp))
  have HO:=hide (onlyA w (.cells #[.int .i64 a,.int .i64 3,.int .i64 X.lv,.int .i64 X.rt,.string (hiB X.hi),.slice ao X.items.length cp] 37))
  have HCK:Hid (∀ W,Only (fun _=>False) w W→Calls Tryz.prog 52 #[.agg #[.int .i64 a,.int .i64 3,.int .i64 X.lv,.int .i64 X.rt,.string (hiB X.hi),.slice ao X.items.length cp]] W fun x w'=>x=.returned (.int .i64 0)∧Only (fun _=>False) W w'):=fun W ho=>check_nd W a X B cp ao (hP.more ho) ha
  have HB:=hide (fun W=>bread_any X.lv s W)
  have HST:Hid (∀ (e:En) W,Only (fun _=>False) w W→Calls Tryz.prog 56 #[.agg #[.int .i64 a,.int .i64 3,.int .i64 X.lv,.int .i64 X.rt,.string (hiB X.hi),.slice ao X.items.length cp],.agg #[.string e.key,.int .i64 e.page,.int .i64 e.slot]] W fun x w'=>x=.returned (.bool (X.std e))∧Only (fun _=>False) W w'):=fun e W ho=>stands_nd W a X e B cp ao (hP.more ho)
  have HWI:Hid (∀ W,Only (fun _=>False) w W→Calls Tryz.prog 57 #[.agg #[.int .i64 a,.int .i64 3,.int .i64 X.lv,.int .i64 X.rt,.string (hiB X.hi),.slice ao X.items.length cp],.string s] W fun x w'=>Res W w' x (X.wiP a (brd X.lv s)) (X.wiK (brd X.lv s))):=fun W ho=>with_nd W a X s B cp ao (hP.more ho) hF
  clear hP hF ha
  obtain ⟨b,hb⟩:=exq (brd X.lv s)
  rw [hb] at HB HWI ⊢
  clear hb
  obtain ⟨⟨N,E⟩,hNE⟩:∃ q,X.need page b=q:=⟨_,rfl⟩
  rw [hNE]
  have HNE:=hide hNE
  clear hNE
  simp only []
  obtain ⟨L,hL⟩:=exq ((X.lv:Int))
  obtain ⟨R,hR⟩:=exq ((X.rt:Int))
  obtain ⟨h,hh⟩:=exq (hiB X.hi)
  obtain ⟨n,hn⟩:=exq (X.items.length)
  rw [hL,hR,hh,hn] at HP HO HCK HST HWI ⊢
  rw [hL] at HB
  clear hL hR hh hn
  go_enter Tryz.func29,Tryz.ntmps29
  go_upto_region 1 with fail
  obtain ⟨W0,hW0⟩:=exq (w.alloc (.cells #[.int .i64 a,.int .i64 3,.int .i64 L,.int .i64 R,.string h,.slice ao n cp] 37))
  rw [hW0] at HP HO ⊢
  clear hW0
  obtain ⟨p0,p1,p2,p3,p4,p5,_⟩:=HP.out
  go_wp2_with fail
  refine (HCK.out _ HO.out).mono ?_
  rintro x w1 ⟨rfl,ho⟩
  have HP1:=hide (HP.out.more ho)
  have HO1:=hide (o2 HO.out ho)
  clear ho p0 p1 p2 p3 p4 p5 HP HO HCK
  obtain ⟨p0,p1,p2,p3,p4,p5,_⟩:=HP1.out
  cases b with
  | none=>
    have HB2:Hid (∀ W,Calls Tryz.prog 55 #[.int .i64 L,.string s] W fun x w'=>x=.returned (.tuple #[.agg #[.string ⟨#[]⟩,.int .i64 0,.int .i64 0],.int .i64 0,.int .i64 140])∧Only (fun _=>False) W w'):=HB
    have HN:Hid (N=0∧E=140):=by
      have h:=HNE.out
      unfold Nd.need at h
      simp only [Prod.mk.injEq] at h
      exact ⟨h.1.symm,h.2.symm⟩
    clear HNE
    go_wp2_with fail
    refine (HB2.out _).mono ?_
    rintro x w2 ⟨rfl,ho⟩
    have HO2:=hide (o2 HO1.out ho)
    clear ho
    go_wp2_with fail
    go_ret2
    obtain ⟨rfl,rfl⟩:=HN.out
    exact ⟨rfl,o2 HO2.out (onlyA _ _)⟩
  | some k=>
    obtain ⟨e,c⟩:=k
    have HB2:Hid (∀ W,Calls Tryz.prog 55 #[.int .i64 L,.string s] W fun x w'=>x=.returned (.tuple #[.agg #[.string e.key,.int .i64 e.page,.int .i64 e.slot],.int .i64 c,.int .i64 0])∧Only (fun _=>False) W w'):=HB
    clear HB
    have HST1:=hide (HST.out e)
    have HN:Hid ((if X.std e=true then ((0:Int),(150:Int)) else if X.wiK (some (e,c))=3 then (if page=1 then 2 else 1,0) else (0,X.wiK (some (e,c))))=(N,E)):=HNE.out
    clear HNE
    obtain ⟨T,hT⟩:=exq (X.std e)
    obtain ⟨K,hK⟩:=exq (X.wiK (some (e,c)))
    rw [hT] at HST1 HN
    rw [hK] at HWI HN
    clear hT hK HST
    go_wp2_with fail
    refine (HB2.out _).mono ?_
    rintro x w2 ⟨rfl,ho⟩
    have HP2:=hide (HP1.out.more ho)
    have HO2:=hide (o2 HO1.out ho)
    clear ho p0 p1 p2 p3 p4 p5 HP1 HO1 HB2
    go_upto_region 4 with fail
    have HA:=hide (onlyA w2 (.cells #[.string e.key,.int .i64 e.page,.int .i64 e.slot] 89))
    have HV:=hide (Ev.new w2 e)
    obtain ⟨cb,hcb⟩:=exq (w2.heap.size)
    rw [hcb] at HV ⊢
    clear hcb
    obtain ⟨w3,hw3⟩:=exq (w2.alloc (.cells #[.string e.key,.int .i64 e.page,.int .i64 e.slot] 89))
    rw [hw3] at HA HV ⊢
    clear hw3
    have HP3:=hide (HP2.out.more HA.out)
    have HO3:=hide (o2 HO2.out HA.out)
    clear HA HP2 HO2
    obtain ⟨p0,p1,p2,p3,p4,p5,_⟩:=HP3.out
    obtain ⟨d0,d1,d2,_⟩:=HV.out
    go_wp2_with fail
    refine (HST1.out _ HO3.out).mono ?_
    rintro x w4 ⟨rfl,ho⟩
    have HP4:=hide (HP3.out.more ho)
    have HO4:=hide (o2 HO3.out ho)
    clear ho p0 p1 p2 p3 p4 p5 d0 d1 d2 HP3 HO3 HV HST1
    obtain ⟨p0,p1,p2,p3,p4,p5,_⟩:=HP4.out
    cases T with
    | true=>
      have HN2:Hid (N=0∧E=150):=by
        have h:=HN.out
        rw [if_pos rfl,Prod.mk.injEq] at h
        exact ⟨h.1.symm,h.2.symm⟩
      clear HN
      go_wp2_with fail
      go_ret2
      obtain ⟨rfl,rfl⟩:=HN2.out
      exact ⟨rfl,HO4.out⟩
    | false=>
      rw [if_neg (by decide)] at HN
      have HWI1:=hide (HWI.out w4 HO4.out)
      by_cases k3:K=3
      · subst k3
        by_cases pg:page=1
        · have HN2:Hid (N=2∧E=0):=by
            have h:=HN.out
            rw [if_pos rfl,if_pos pg,Prod.mk.injEq] at h
            exact ⟨h.1.symm,h.2.symm⟩
          clear HN
          go_wp2_with fail
          refine HWI1.out.mono ?_
          rintro x w5 ⟨B5,ao5,cp5,rfl,hS5,hF5,ho5,hB5⟩
          have HO5:=hide (o2 HO4.out ho5)
          clear hS5 hF5 hB5 ho5
          go_wp2_with fail
          go_ret2
          obtain ⟨rfl,rfl⟩:=HN2.out
          exact ⟨rfl,o2 HO5.out (onlyA _ _)⟩
        · have HN2:Hid (N=1∧E=0):=by
            have h:=HN.out
            rw [if_pos rfl,if_neg pg,Prod.mk.injEq] at h
            exact ⟨h.1.symm,h.2.symm⟩
          clear HN
          go_wp2_with fail
          refine HWI1.out.mono ?_
          rintro x w5 ⟨B5,ao5,cp5,rfl,hS5,hF5,ho5,hB5⟩
          have HO5:=hide (o2 HO4.out ho5)
          clear hS5 hF5 hB5 ho5
          go_wp2_with fail
          go_ret2
          obtain ⟨rfl,rfl⟩:=HN2.out
          exact ⟨rfl,o2 HO5.out (onlyA _ _)⟩
      · have HN2:Hid (N=0∧E=K):=by
          have h:=HN.out
          rw [if_neg k3,Prod.mk.injEq] at h
          exact ⟨h.1.symm,h.2.symm⟩
        clear HN
        go_wp2_with fail
        refine HWI1.out.mono ?_
        rintro x w5 ⟨B5,ao5,cp5,rfl,hS5,hF5,ho5,hB5⟩
        have HO5:=hide (o2 HO4.out ho5)
        clear hS5 hF5 hB5 ho5
        go_wp2_with fail
        go_ret2
        obtain ⟨rfl,rfl⟩:=HN2.out
        exact ⟨rfl,o2 HO5.out (onlyA _ _)⟩
end Go.Proofs.YtajjakljheafjaaGreat
namespace Go.Proofs.YtajjakljheafjaaGreat
open Go.RowKit Go.Maps
structure Lyt (α:Type) where
  c:Nat
  e:α→List Value
  len:∀ x,(e x).length=c
  one:∀ x,∀ u ∈ e x,u.oneCell'=true
theorem Lyt.length {α:Type} (E:Lyt α) (L:List α):(L.flatMap E.e).length=L.length * E.c:=by
  induction L with
  | nil=>simp
  | cons x L ih=>rw [List.flatMap_cons,List.length_append,ih,E.len,List.length_cons,Nat.add_mul]; omega
theorem Lyt.ones {α:Type} (E:Lyt α) (L:List α):∀ u ∈ L.flatMap E.e,u.oneCell'=true:=by
  intro u hu
  obtain ⟨x,_,hx⟩:=List.mem_flatMap.1 hu
  exact E.one x u hx
theorem Lyt.get {α:Type} (E:Lyt α) {L:List α} {j i:Nat} (hj:j < L.length) (hi:i < E.c):(L.flatMap E.e)[j * E.c+i]?=(E.e L[j])[i]?:=by
  have e:L=L.take j++L[j] :: L.drop (j+1):=by rw [← List.drop_eq_getElem_cons hj,List.take_append_drop]
  have e2:L.flatMap E.e=(L.take j).flatMap E.e++(E.e L[j]++(L.drop (j+1)).flatMap E.e):=by
    conv=>lhs; rw [e]
    rw [List.flatMap_append,List.flatMap_cons]
  have hl:((L.take j).flatMap E.e).length=j * E.c:=by rw [E.length,List.length_take]; rw [Nat.min_eq_left (by omega)]
  rw [e2,List.getElem?_append_right (by omega),hl,List.getElem?_append_left (by rw [E.len]; omega)]
  congr 1
  omega
def GRow {α:Type} (E:Lyt α) (ty:TypeId) (w:World) (base:Nat) (v:Value) (L:List α):Prop:=w.ownsRow base ty E.c v L.length (L.flatMap E.e)
section
variable {α:Type} {E:Lyt α} {ty:TypeId}
theorem GRow.nil (w:World) (base:Nat):GRow E ty w base (.slice none 0 0) []:=⟨by simp,.inl ⟨rfl,rfl⟩⟩
theorem GRow.kept {S:Nat→Prop} {w w':World} {base:Nat} {v:Value} {L:List α} (h:GRow E ty w base v L) (ho:Only S w w') (hS:∀ k,v.ownBlock=some k→¬ S k):GRow E ty w' base v L:=by
  obtain ⟨h1,h2⟩:=h
  refine ⟨h1,?_⟩
  rcases h2 with h2 | ⟨g,cap,cur,hv,hg,hh,r⟩
  · exact .inl h2
  · subst hv
    exact .inr ⟨g,cap,cur,rfl,hg,by rw [ho.block g (Array.getElem?_eq_some_iff.1 hh).1 (hS g rfl)]; exact hh,r⟩
theorem GRow.more {w w':World} {base:Nat} {v:Value} {L:List α} (h:GRow E ty w base v L) (ho:Only (fun _=>False) w w'):GRow E ty w' base v L:=h.kept ho (fun _ _=>id)
theorem GRow.low {w:World} {base:Nat} {v:Value} {L:List α} (h:GRow E ty w base v L):∀ k,v.ownBlock=some k→base≤k∧k < w.heap.size:=fun k hk=>World.ownsRow.lt h k hk
theorem GRow.base {w:World} {b b':Nat} {v:Value} {L:List α} (h:GRow E ty w b v L) (hb:b'≤b):GRow E ty w b' v L:=by
  obtain ⟨h1,h2⟩:=h
  refine ⟨h1,?_⟩
  rcases h2 with h2 | ⟨g,cap,cur,hv,hg,r⟩
  · exact .inl h2
  · exact .inr ⟨g,cap,cur,hv,Nat.le_trans hb hg,r⟩
theorem GRow.form {w:World} {base:Nat} {v:Value} {L:List α} (h:GRow E ty w base v L):∃ ao cp,v=.slice ao L.length cp:=by
  rcases h.2 with ⟨rfl,h0⟩ | ⟨g,cap,cur,rfl,_⟩
  · exact ⟨none,0,by rw [h0]⟩
  · exact ⟨_,_,rfl⟩
theorem GRow.head {w:World} {base cp:Nat} {ao:Option Addr} {L:List α} (h:GRow E ty w base (.slice ao L.length cp) L):(ao=none∧L=[]∧cp=0)∨∃ g,ao=some ⟨g,0,none⟩∧base≤g∧g < w.heap.size∧L.length≤cp∧cp≤maxLen∧(∀ i,w.frozen? ⟨g,i,none⟩=false)∧∀ i u,(L.flatMap E.e)[i]?=some u→w.cell? ⟨g,i,none⟩=some u:=by
  have h':=h
  rcases h.2 with ⟨e,h0⟩ | ⟨g,cap,cur,e,hb,hh,hc,hm,_,_⟩
  · injection e with e1 e2 e3
    exact .inl ⟨e1,List.eq_nil_of_length_eq_zero e2,e3⟩
  · injection e with e1 e2 e3
    subst e1
    subst e3
    refine .inr ⟨g,rfl,hb,(Array.getElem?_eq_some_iff.1 hh).1,hc,hm,?_,fun i u hu=>?_⟩
    · simp [World.frozen?,hh]
    · have:=World.ownsRow.cells h' (g:=g) rfl i u hu
      rwa [show (⟨g,0,none⟩:Addr).add i=⟨g,i,none⟩ from by rw [add_at]; simp] at this
theorem GRow.at_ {w:World} {base cp:Nat} {ao:Option Addr} {L:List α} (h:GRow E ty w base (.slice ao L.length cp) L) {j:Nat} (hj:j < L.length):∃ g,ao=some ⟨g,0,none⟩∧base≤g∧g < w.heap.size∧L.length≤cp∧∀ i u,i < E.c→(E.e L[j])[i]?=some u→w.cell? ⟨g,j * E.c+i,none⟩=some u:=by
  rcases h.head with ⟨_,e,_⟩ | ⟨g,e,h1,h2,h3,_,_,h4⟩
  · subst e; simp at hj
  · exact ⟨g,e,h1,h2,h3,fun i u hi hu=>h4 _ u (by rw [E.get hj hi]; exact hu)⟩
def GSrc (E:Lyt α) (w:World) (ao:Option Addr) (m:Nat) (N:List α):Prop :=
  N.length=m∧((ao=none∧m=0)∨∃ a,ao=some a∧∀ j u,(N.flatMap E.e)[j]?=some u→w.cell? (a.add j)=some u)
theorem GSrc.new (w:World) (x:α) (t:TypeId):GSrc E (w.alloc (.cells (E.e x).toArray t)) (some ⟨w.heap.size,0,none⟩) 1 [x]:=by
  refine ⟨rfl,.inr ⟨_,rfl,fun j u hu=>?_⟩⟩
  have hu':(E.e x)[j]?=some u:=by simpa using hu
  rw [add_at]
  have hj:=(List.getElem?_eq_some_iff.1 hu').1
  simp only [World.cell?,World.alloc]
  simpa using hu'
theorem own_grownE (w:World) {base:Nat} {e:TypeId} {n m old c:Nat} {z:Value} {xs news:List Value} (hz:z.cells.size=c) (hx:xs.length=n * c) (hl:news.length=m * c) (h63:n+m≤maxLen) (hbase:base≤w.heap.size) (row:Option Nat) :
    (w.drew.alloc (.cells (xs.toArray++news.toArray++Builtin.zeroCells z.cells (grownCap w (n+m) old e - (n+m))) e)).ownsRow base e c (.slice (some ⟨w.heap.size,0,none⟩) (n+m) (grownCap w (n+m) old e)) (n+m) (xs++news) ∧
    w.grownBy (w.drew.alloc (.cells (xs.toArray++news.toArray++Builtin.zeroCells z.cells (grownCap w (n+m) old e - (n+m))) e)) row:=by
  have hge:=grownCap_ge w (n+m) old e
  have hcm:grownCap w (n+m) old e≤maxLen:=grownCap_le_maxLen w (n+m) old e h63
  have hlen:(xs++news).length=(n+m) * c:=by rw [List.length_append,hx,hl,Nat.add_mul]
  refine ⟨⟨hlen,.inr ⟨w.heap.size,_,_,rfl,hbase,heap_alloc_new w.drew _,hge,hcm,?_,?_⟩⟩,⟨rfl,rfl,rfl,by simp,fun k hk _=>Below.heap_alloc w.drew _ k hk⟩⟩
  · simp only [Array.size_append,List.size_toArray,size_zeroCells,hz,hx,hl]
    rw [← Nat.add_mul,← Nat.add_mul]
    congr 1
    omega
  · simp only [Array.toList_append,List.append_assoc]
    rw [← List.append_assoc,← hlen]
    exact List.take_left
theorem grow_append {w:World} {base:Nat} {v:Value} {L N:List α} {ao:Option Addr} {m:Nat} {t:TypeId} {z:Value} {bytes:Nat} (ht:Tryz.prog.underlying t=some (.slice ty)) (hinf:(Tryz.prog.info? ty).map (fun i=>(i.zero,i.size,i.bytes))=some (some z,E.c,bytes)) (hzs:z.cells.size=E.c)
    (h:GRow E ty w base v L) (hs:GSrc E w ao m N) (hn:(L.length+m+(L.length+m) / 4+512) * bytes≤281474976710656) (hn2:L.length+m≤maxLen) (hb:base≤w.heap.size) (tr:TypeId) (c:Nat) :
    ∃ v' w',(Builtin.append_ #[t,t] tr #[v,.slice ao m c]).run Tryz.prog w=.ok v' w'∧GRow E ty w' base v' (L++N)∧w.grownBy w' v.ownBlock∧(v'.ownBlock=v.ownBlock∨v'.ownBlock=some w.heap.size):=by
  obtain ⟨i0,hi,hz0,hz1,hz2⟩:=info_parts hinf
  obtain ⟨hl,h0 | ⟨a,rfl,hc⟩⟩:=hs
  · obtain ⟨rfl,rfl⟩:=h0
    have hN:N=[]:=List.eq_nil_of_length_eq_zero hl
    subst hN
    refine ⟨v,w,?_,by rw [List.append_nil]; exact h,⟨rfl,rfl,rfl,Nat.le_refl _,fun _ _ _=>rfl⟩,.inl rfl⟩
    rcases h.2 with ⟨rfl,_⟩ | ⟨g,cap,cur,rfl,_,_,hle,_⟩
    · simp [Builtin.append_,run_underlying ht,sizeOf,typeInfo,hi,Builtin.lenOf,Builtin.firstCells]
    · simp [Builtin.append_,run_underlying ht,sizeOf,typeInfo,hi,Builtin.lenOf,Builtin.firstCells,storeCells,hle]
  · have h63:L.length+m≤maxLen:=hn2
    have hlN:(N.flatMap E.e).length=m * i0.size:=by rw [E.length,hl,hz1]
    have hLN:(L++N).length=L.length+m:=by rw [List.length_append,hl]
    have hm63:((L.length+m:Nat):Int)≤9223372036854775807:=by unfold maxLen at h63; omega
    have grn:∀ old,old < L.length+m→Builtin.nextslicecap (L.length+m) old * i0.bytes≤281474976710656:=fun old ho=>by
      rw [hz2]
      exact Nat.le_trans (Nat.mul_le_mul_right _ (next_le ho)) hn
    have fold:∀ w' v',w'.ownsRow base ty E.c v' (L.length+m) (L.flatMap E.e++N.flatMap E.e)→GRow E ty w' base v' (L++N):=fun w' v' ho=>by
      unfold GRow
      rw [hLN,List.flatMap_append]
      exact ho
    rcases h.2 with ⟨rfl,e0⟩ | ⟨g,cap,cur,rfl,hbg,hg,hnc,hcm,hcs,htake⟩
    · have hL:L=[]:=List.eq_nil_of_length_eq_zero e0
      subst hL
      by_cases hm:m=0
      · subst hm
        have hN:N=[]:=List.eq_nil_of_length_eq_zero hl
        subst hN
        refine ⟨.slice none 0 0,w,?_,h,⟨rfl,rfl,rfl,Nat.le_refl _,fun _ _ _=>rfl⟩,.inl rfl⟩
        simp [Builtin.append_,run_underlying ht,sizeOf,typeInfo,hi,Builtin.lenOf,Builtin.firstCells,loadCells,loadCellsFrom]
      · have h48:m * i0.bytes≤281474976710656:=by
          rw [hz2]
          refine Nat.le_trans (Nat.mul_le_mul_right _ ?_) hn
          simp
          omega
        have hr:=run_append_nil (P:=Tryz.prog) w t tr ty i0 z ht hi hz0 a m c (N.flatMap E.e) hlN hc (by omega) (by simpa using hm63) h48
        have hgr:=own_grownE w (base:=base) (e:=ty) (n:=0) (m:=m) (old:=0) (xs:=[]) hzs (by simp) (by rw [E.length,hl]) (by simpa using h63) hb (Value.ownBlock (.slice none 0 0))
        simp only [Nat.zero_add,List.nil_append,Array.empty_append] at hgr ⊢
        have hf:=fold _ _ (by simpa using hgr.1)
        simp only [List.nil_append] at hf
        exact ⟨_,_,hr,hf,hgr.2,.inr rfl⟩
    · by_cases hrm:L.length+m≤cap
      · have hfit:L.length * i0.size+(N.flatMap E.e).length≤cur.size:=by
          rw [hlN,hz1,hcs,← Nat.add_mul]
          exact Nat.mul_le_mul_right _ hrm
        have hr:=run_append_room (P:=Tryz.prog) w t tr ty i0 ht hi g L.length cap cur hg a m c (N.flatMap E.e) hlN hc (E.ones N) hrm hfit
        rw [hz1] at hr hfit
        refine ⟨_,_,hr,fold _ _ ⟨by rw [List.length_append,E.length,E.length,hl,Nat.add_mul],.inr ⟨g,cap,_,rfl,hbg,setRow_heap w g cur _ ty _ hg,hrm,hcm,?_,?_⟩⟩,⟨rfl,rfl,rfl,by simp,fun k _ hk=>setRow_other w g k _ (fun e=>hk (by simp [Value.ownBlock,e]))⟩,.inl rfl⟩
        · simp only [List.size_toArray,List.length_append,List.length_take,List.length_drop,Array.length_toList]
          omega
        · have hlen:(L.flatMap E.e++N.flatMap E.e).length=(L.length+m) * E.c:=by rw [List.length_append,E.length,E.length,hl,Nat.add_mul]
          rw [htake,← hlen]
          exact List.take_left
      · have hr:=run_append_grow (P:=Tryz.prog) w t tr ty i0 z ht hi hz0 ⟨g,0,none⟩ L.length cap (L.flatMap E.e) (by rw [hz1,E.length]) (World.ownsRow.cells h (g:=g) rfl) a m c (N.flatMap E.e) hlN hc (by omega) hm63 (grn cap (by omega))
        have hgr:=own_grownE w (base:=base) (e:=ty) (n:=L.length) (m:=m) (old:=cap) (xs:=L.flatMap E.e) hzs (E.length L) (by rw [E.length,hl]) h63 hb (Value.ownBlock (.slice (some ⟨g,0,none⟩) L.length cap))
        exact ⟨_,_,hr,fold _ _ hgr.1,hgr.2,.inr rfl⟩
end
def ERw:Lyt (ByteArray × ByteArray):=⟨2,fun p=>[.string p.1,.string p.2],fun _=>rfl,fun x u hu=>by simp at hu; rcases hu with rfl | rfl <;> rfl⟩
theorem Tryz.infoRow:(Tryz.prog.info? 80).map (fun i=>(i.zero,i.size,i.bytes))=some (some (.agg #[.string ⟨#[]⟩,.string ⟨#[]⟩]),2,32):=by kernel_rfl
abbrev RowsAt (w:World) (base:Nat) (v:Value) (L:List (ByteArray × ByteArray)):Prop:=GRow ERw 80 w base v L
theorem rows_one {w:World} {base:Nat} {v:Value} {L:List (ByteArray × ByteArray)} (h:RowsAt w base v L) (x:ByteArray × ByteArray) (hn:L.length≤1000) (hb:base≤w.heap.size) (tr:TypeId) (c:Nat) :
    ∃ v' w',(Builtin.append_ #[53,53] tr #[v,.slice (some ⟨w.heap.size,0,none⟩) 1 c]).run Tryz.prog (w.alloc (.cells #[.string x.1,.string x.2] 80))=.ok v' w'∧RowsAt w' base v' (L++[x])∧Only (fun k=>v.ownBlock=some k) w w'∧(v'.ownBlock=v.ownBlock∨v'.ownBlock=some (w.heap.size+1)):=by
  obtain ⟨v',w',h1,h2,h3,h4⟩:=grow_append (w:=w.alloc (.cells #[.string x.1,.string x.2] 80)) (N:=[x]) (ao:=some ⟨w.heap.size,0,none⟩) (m:=1) Tryz.underlying53 Tryz.infoRow rfl (h.more (onlyA _ _)) (GSrc.new w x 80) (by omega) (by unfold maxLen; omega) (by simp; omega) tr c
  refine ⟨v',w',h1,h2,?_,by simpa using h4⟩
  exact ((onlyA w _).mono (fun _ _ h=>h.elim)).trans (Only.grown h3 (fun k hk=>hk)) (fun _ _ h=>h)
end Go.Proofs.YtajjakljheafjaaGreat
namespace Go.Proofs.YtajjakljheafjaaGreat
open Go.RowKit
theorem strs2 (w:World) (k v:ByteArray) (hk:k.size≤24) (hv:v.size≤64):Strs (w.alloc (.cells #[.string k,.string v] 9)) w.heap.size (some ⟨w.heap.size,0,none⟩) [k,v]:=by
  refine ⟨fun _=>⟨0,rfl,fun j hj=>?_⟩,fun _=>by simp,by simp,fun s hs=>?_⟩
  · match j,hj with
    | 0,_=>simp
    | 1,_=>simp
  · simp only [List.mem_cons,List.not_mem_nil,or_false] at hs
    rcases hs with rfl | rfl <;> omega
theorem str_catU (a b:List UInt8):str a++str b=str (a++b):=cat_eqU a ⟨b.toArray⟩
theorem i64_nat {x:Int} (h:0≤x):((x.toNat:Nat):Int)=x:=by omega
theorem uencode_bad (t:Tu) (w:World) (h0:-9223372036854775808≤t.xmin∧t.xmin < 9223372036854775808) (h1:-9223372036854775808≤t.xmax∧t.xmax < 9223372036854775808) (h:t.ok=false) :
    Calls Tryz.prog 45 #[t.agg] w fun e w'=>e=.returned (.tuple #[.string ⟨#[]⟩,.int .i64 110])∧Only (fun _=>False) w w':=by
  have HC:Hid (∀ W,Calls Tryz.prog 79 #[t.agg] W fun e w'=>e=.returned (.bool false)∧Only (fun _=>False) W w'):=fun W=>by
    have:=isVersion_any t W h0 h1
    rwa [h] at this
  clear h h0 h1
  unfold Tu.agg
  unfold Tu.agg at HC
  go_enter Tryz.func45,Tryz.ntmps45
  go_wp2_with fail
  refine (HC.out _).mono ?_
  rintro e w1 ⟨rfl,ho⟩
  have HO:=hide (o2 (onlyA w _) ho)
  clear ho
  go_wp2_with fail
  go_ret2
  exact ⟨rfl,HO.out⟩
set_option maxHeartbeats 3200000 in
theorem uencode_ok (t:Tu) (w:World) (h:t.ok=true) :
    Calls Tryz.prog 45 #[t.agg] w fun e w'=>e=.returned (.tuple #[.string (str t.enc),.int .i64 0])∧Only (fun _=>False) w w':=by
  have hk':=Tu.ok_iff.1 h
  have HK:Hid (t.key.size≤24):=hk'.2.2.2.2.2.1
  have HV:Hid (t.value.size≤64):=hk'.2.2.2.2.2.2
  obtain ⟨M,hM⟩:∃ M:ByteArray,(⟨#[mkB t.frozen]⟩:ByteArray)=M:=⟨_,rfl⟩
  have sM:M.size=1:=by rw [← hM]; rfl
  have eM:M=str [mkB t.frozen]:=hM.symm
  obtain ⟨Y1,hY1⟩:=exq (str (bigF 2 t.xmin.toNat))
  have sY1:Y1.size≤2:=by rw [← hY1,str_size]; rw [bigF_len]; omega
  obtain ⟨C1,hC1⟩:=exq (M++Y1)
  have eC1:C1=str ([mkB t.frozen]++bigF 2 t.xmin.toNat):=by rw [← hC1,eM,← hY1,str_catU]
  have sC1:C1.size≤3:=by rw [← hC1,ByteArray.size_append]; omega
  have yC1:M.size+Y1.size≤9223372036854775807:=by omega
  obtain ⟨Y2,hY2⟩:=exq (str (bigF 2 t.xmax.toNat))
  have sY2:Y2.size≤2:=by rw [← hY2,str_size]; rw [bigF_len]; omega
  obtain ⟨C2,hC2⟩:=exq (C1++Y2)
  have eC2:C2=str (([mkB t.frozen]++bigF 2 t.xmin.toNat)++bigF 2 t.xmax.toNat):=by rw [← hC2,eC1,← hY2,str_catU]
  have sC2:C2.size≤5:=by rw [← hC2,ByteArray.size_append]; omega
  have yC2:C1.size+Y2.size≤9223372036854775807:=by omega
  obtain ⟨Y3,hY3⟩:=exq (str (txsL [t.key,t.value]))
  have sY3:Y3.size≤90:=by rw [← hY3,str_size]; have:=txL_len t.key (by omega); have:=txL_len t.value (by omega); simp [txsL]; omega
  obtain ⟨C3,hC3⟩:=exq (C2++Y3)
  have eC3:C3=str ((([mkB t.frozen]++bigF 2 t.xmin.toNat)++bigF 2 t.xmax.toNat)++txsL [t.key,t.value]):=by rw [← hC3,eC2,← hY3,str_catU]
  have sC3:C3.size≤95:=by rw [← hC3,ByteArray.size_append]; omega
  have yC3:C2.size+Y3.size≤9223372036854775807:=by omega
  have HE:Hid (C3=str t.enc):=by
    unfold Hid
    rw [eC3]
    unfold Tu.enc txsL
    simp
  have HC:Hid (∀ W,Calls Tryz.prog 79 #[.agg #[.int .i64 t.xmin,.int .i64 t.xmax,.bool t.frozen,.string t.key,.string t.value]] W fun e w'=>e=.returned (.bool true)∧Only (fun _=>False) W w'):=fun W=>by
    have:=isVersion_any t W (by omega) (by omega)
    rwa [h] at this
  have HM:Hid (∀ W,Calls Tryz.prog 80 #[.bool t.frozen] W fun e w'=>e=.returned (.string M)∧w'=W):=fun W=>by
    rw [← hM]
    exact umark_any t.frozen W
  have HG1:Hid (∀ W,Calls Tryz.prog 81 #[.int .i64 t.xmin,.int .i64 2] W fun e w'=>e=.returned (.string Y1)∧Only (fun _=>False) W w'):=fun W=>by
    have:=big_any t.xmin.toNat 2 W (by omega) (by omega) (by omega)
    rw [i64_nat (by omega)] at this
    rw [← hY1]
    exact this
  have HG2:Hid (∀ W,Calls Tryz.prog 81 #[.int .i64 t.xmax,.int .i64 2] W fun e w'=>e=.returned (.string Y2)∧Only (fun _=>False) W w'):=fun W=>by
    have:=big_any t.xmax.toNat 2 W (by omega) (by omega) (by omega)
    rw [i64_nat (by omega)] at this
    rw [← hY2]
    exact this
  have HG3:Hid (∀ W B,Strs W B (some ⟨B,0,none⟩) [t.key,t.value]→Calls Tryz.prog 82 #[.slice (some ⟨B,0,none⟩) 2 2] W fun e w'=>e=.returned (.string Y3)∧Only (fun _=>False) W w'):=fun W B hs=>by
    rw [← hY3]
    exact ulaid_any W B 2 (some ⟨B,0,none⟩) [t.key,t.value] hs (by simp) (fun s hs=>by
      simp only [List.mem_cons,List.not_mem_nil,or_false] at hs
      rcases hs with rfl | rfl <;> omega)
  clear hk' h hM eM hY1 hY2 hY3 eC1 eC2 eC3 sM sY1 sY2 sY3 sC1 sC2 sC3
  unfold Tu.agg
  have HB0:=hide (Tb.new w t)
  go_enter Tryz.func45,Tryz.ntmps45
  go_wp2_with fail
  refine (HC.out _).mono ?_
  rintro e W0 ⟨rfl,ho⟩
  have HB:=hide (HB0.out.more ho)
  have HO:=hide (o2 (onlyA w _) ho)
  clear ho HB0 HC
  go_upto_region 3 with fail
  refine wp_region_noPanic ?_
  refine wp_region_held_drew (S:=fun W=>Only (fun _=>False) W0 W) (by kernel_rfl) (Only.drew _ _) (fun hHeld=>?_)
  refine tkP 0 (.pointer (some ⟨w.heap.size,2,none⟩)) rfl ?_
  refine tkP 3 (.pointer (some ⟨w.heap.size,0,none⟩)) rfl ?_
  refine tkP 7 (.pointer (some ⟨w.heap.size,1,none⟩)) rfl ?_
  refine tkP 11 (.pointer (some ⟨w.heap.size,3,none⟩)) rfl ?_
  refine tkP 13 (.pointer (some ⟨w.heap.size,4,none⟩)) rfl ?_
  refine tkQ 1 (.bool t.frozen) rfl (yieldsIf_load_cell (by rfl) 4 _ rfl _ rfl (fun W hW=>(HB.out.more hW).c2) (fun W hc=>ld_bool hc)) ?_
  refine tkQ 4 (.int .i64 t.xmin) rfl (yieldsIf_load_cell (by rfl) 3 _ rfl _ rfl (fun W hW=>(HB.out.more hW).c0) (fun W hc=>ld_int hc)) ?_
  refine tkQ 8 (.int .i64 t.xmax) rfl (yieldsIf_load_cell (by rfl) 3 _ rfl _ rfl (fun W hW=>(HB.out.more hW).c1) (fun W hc=>ld_int hc)) ?_
  refine tkQ 12 (.string t.key) rfl (yieldsIf_load_cell (by rfl) 9 _ rfl _ rfl (fun W hW=>(HB.out.more hW).c3) (fun W hc=>ld_string hc)) ?_
  refine tkQ 14 (.string t.value) rfl (yieldsIf_load_cell (by rfl) 9 _ rfl _ rfl (fun W hW=>(HB.out.more hW).c4) (fun W hc=>ld_string hc)) ?_
  refine wpAnyH_ready (rs:=[2,15]) (by kernel_rfl) (by simp) ?_
  refine arC rfl (fun K hK=>?_) (arC rfl (fun K hK=>?_) (AllReadyH.nil))
  · go_simp
    refine (HM.out _).mono ?_
    rintro e _ ⟨rfl,rfl⟩
    refine hK.out _ _ ((Only.drew _ _)) (fun hHeld=>?_)
    clear hK K
    try simp only [Act.put,lsA,lsB,lsC]
    refine wpAnyH_ready (rs:=[5,15]) (by kernel_rfl) (by simp) ?_
    refine arC rfl (fun K hK=>?_) (arC rfl (fun K hK=>?_) (AllReadyH.nil))
    · go_simp
      refine (HG1.out _).mono ?_
      rintro e x1 ⟨rfl,hx1⟩
      have HX1:=hide (o2 (Only.drew _ _) hx1)
      clear hx1
      refine hK.out _ _ (HX1.out) (fun hHeld=>?_)
      clear hK K
      try simp only [Act.put,lsA,lsB,lsC]
      refine tkP 6 (.string C1) rfl ?_
      refine wpAnyH_ready (rs:=[9,15]) (by kernel_rfl) (by simp) ?_
      refine arC rfl (fun K hK=>?_) (arC rfl (fun K hK=>?_) (AllReadyH.nil))
      · go_simp
        refine (HG2.out _).mono ?_
        rintro e x2 ⟨rfl,hx2⟩
        have HX2:=hide (o2 HX1.out hx2)
        clear hx2
        refine hK.out _ _ (HX2.out) (fun hHeld=>?_)
        clear hK K
        try simp only [Act.put,lsA,lsB,lsC]
        refine tkP 10 (.string C2) rfl ?_
        refine rd1 15 rfl (fun K hK=>?_)
        go_simp
        have HS:=hide (strs2 x2 t.key t.value HK.out HV.out)
        refine hK.out _ _ (o2 HX2.out (onlyA _ _)) (fun hHeld=>?_)
        clear hK K
        try simp only [Act.put,lsA,lsB,lsC]
        refine rd1 16 rfl (fun K hK=>?_)
        go_simp
        refine (HG3.out _ x2.heap.size HS.out).mono ?_
        rintro e x3 ⟨rfl,hx3⟩
        have HX3:=hide (o2 (o2 HX2.out (onlyA _ _)) hx3)
        clear hx3
        refine hK.out _ _ (HX3.out) (fun hHeld=>?_)
        clear hK K
        try simp only [Act.put,lsA,lsB,lsC]
        refine tkP 17 (.string C3) rfl ?_
        refine tkP 18 (.string C3) rfl ?_
        refine tkP 19 (.int .i64 0) rfl ?_
        refine dnN ?_
        rw [Exit.then]
        go_wp2_with fail
        go_ret2
        exact ⟨by simp [HE.out],o2 HO.out HX3.out⟩
      · go_simp
        have HS:=hide (strs2 x1 t.key t.value HK.out HV.out)
        refine hK.out _ _ (o2 HX1.out (onlyA _ _)) (fun hHeld=>?_)
        clear hK K
        try simp only [Act.put,lsA,lsB,lsC]
        refine rd1 9 rfl (fun K hK=>?_)
        go_simp
        refine (HG2.out _).mono ?_
        rintro e x2 ⟨rfl,hx2⟩
        have HX2:=hide (o2 (o2 HX1.out (onlyA _ _)) hx2)
        have HS:=hide (HS.out.more hx2)
        clear hx2
        refine hK.out _ _ (HX2.out) (fun hHeld=>?_)
        clear hK K
        try simp only [Act.put,lsA,lsB,lsC]
        refine tkP 10 (.string C2) rfl ?_
        refine rd1 16 rfl (fun K hK=>?_)
        go_simp
        refine (HG3.out _ x1.heap.size HS.out).mono ?_
        rintro e x3 ⟨rfl,hx3⟩
        have HX3:=hide (o2 HX2.out hx3)
        clear hx3
        refine hK.out _ _ (HX3.out) (fun hHeld=>?_)
        clear hK K
        try simp only [Act.put,lsA,lsB,lsC]
        refine tkP 17 (.string C3) rfl ?_
        refine tkP 18 (.string C3) rfl ?_
        refine tkP 19 (.int .i64 0) rfl ?_
        refine dnN ?_
        rw [Exit.then]
        go_wp2_with fail
        go_ret2
        exact ⟨by simp [HE.out],o2 HO.out HX3.out⟩
    · go_simp
      have HS:=hide (strs2 W0.drew t.key t.value HK.out HV.out)
      refine hK.out _ _ (o2 (Only.drew _ _) (onlyA _ _)) (fun hHeld=>?_)
      clear hK K
      try simp only [Act.put,lsA,lsB,lsC]
      refine rd1 5 rfl (fun K hK=>?_)
      go_simp
      refine (HG1.out _).mono ?_
      rintro e x1 ⟨rfl,hx1⟩
      have HX1:=hide (o2 (o2 (Only.drew _ _) (onlyA _ _)) hx1)
      have HS:=hide (HS.out.more hx1)
      clear hx1
      refine hK.out _ _ (HX1.out) (fun hHeld=>?_)
      clear hK K
      try simp only [Act.put,lsA,lsB,lsC]
      refine tkP 6 (.string C1) rfl ?_
      refine rd1 9 rfl (fun K hK=>?_)
      go_simp
      refine (HG2.out _).mono ?_
      rintro e x2 ⟨rfl,hx2⟩
      have HX2:=hide (o2 HX1.out hx2)
      have HS:=hide (HS.out.more hx2)
      clear hx2
      refine hK.out _ _ (HX2.out) (fun hHeld=>?_)
      clear hK K
      try simp only [Act.put,lsA,lsB,lsC]
      refine tkP 10 (.string C2) rfl ?_
      refine rd1 16 rfl (fun K hK=>?_)
      go_simp
      refine (HG3.out _ W0.heap.size HS.out).mono ?_
      rintro e x3 ⟨rfl,hx3⟩
      have HX3:=hide (o2 HX2.out hx3)
      clear hx3
      refine hK.out _ _ (HX3.out) (fun hHeld=>?_)
      clear hK K
      try simp only [Act.put,lsA,lsB,lsC]
      refine tkP 17 (.string C3) rfl ?_
      refine tkP 18 (.string C3) rfl ?_
      refine tkP 19 (.int .i64 0) rfl ?_
      refine dnN ?_
      rw [Exit.then]
      go_wp2_with fail
      go_ret2
      exact ⟨by simp [HE.out],o2 HO.out HX3.out⟩
  · go_simp
    have HS:=hide (strs2 W0.drew t.key t.value HK.out HV.out)
    refine hK.out _ _ (o2 (Only.drew _ _) (onlyA _ _)) (fun hHeld=>?_)
    clear hK K
    try simp only [Act.put,lsA,lsB,lsC]
    refine rd1 2 rfl (fun K hK=>?_)
    go_simp
    refine (HM.out _).mono ?_
    rintro e _ ⟨rfl,rfl⟩
    refine hK.out _ _ ((o2 (Only.drew _ _) (onlyA _ _))) (fun hHeld=>?_)
    clear hK K
    try simp only [Act.put,lsA,lsB,lsC]
    refine rd1 5 rfl (fun K hK=>?_)
    go_simp
    refine (HG1.out _).mono ?_
    rintro e x1 ⟨rfl,hx1⟩
    have HX1:=hide (o2 (o2 (Only.drew _ _) (onlyA _ _)) hx1)
    have HS:=hide (HS.out.more hx1)
    clear hx1
    refine hK.out _ _ (HX1.out) (fun hHeld=>?_)
    clear hK K
    try simp only [Act.put,lsA,lsB,lsC]
    refine tkP 6 (.string C1) rfl ?_
    refine rd1 9 rfl (fun K hK=>?_)
    go_simp
    refine (HG2.out _).mono ?_
    rintro e x2 ⟨rfl,hx2⟩
    have HX2:=hide (o2 HX1.out hx2)
    have HS:=hide (HS.out.more hx2)
    clear hx2
    refine hK.out _ _ (HX2.out) (fun hHeld=>?_)
    clear hK K
    try simp only [Act.put,lsA,lsB,lsC]
    refine tkP 10 (.string C2) rfl ?_
    refine rd1 16 rfl (fun K hK=>?_)
    go_simp
    refine (HG3.out _ W0.heap.size HS.out).mono ?_
    rintro e x3 ⟨rfl,hx3⟩
    have HX3:=hide (o2 HX2.out hx3)
    clear hx3
    refine hK.out _ _ (HX3.out) (fun hHeld=>?_)
    clear hK K
    try simp only [Act.put,lsA,lsB,lsC]
    refine tkP 17 (.string C3) rfl ?_
    refine tkP 18 (.string C3) rfl ?_
    refine tkP 19 (.int .i64 0) rfl ?_
    refine dnN ?_
    rw [Exit.then]
    go_wp2_with fail
    go_ret2
    exact ⟨by simp [HE.out],o2 HO.out HX3.out⟩
def Tu.out (t:Tu):List UInt8:=if t.ok then t.enc else []
def Tu.err (t:Tu):Int:=if t.ok then 0 else 110
theorem uencode_any (t:Tu) (w:World) (h0:-9223372036854775808≤t.xmin∧t.xmin < 9223372036854775808) (h1:-9223372036854775808≤t.xmax∧t.xmax < 9223372036854775808) :
    Calls Tryz.prog 45 #[t.agg] w fun e w'=>e=.returned (.tuple #[.string (str t.out),.int .i64 t.err])∧Only (fun _=>False) w w':=by
  unfold Tu.out Tu.err
  cases h:t.ok
  · exact uencode_bad t w h0 h1 h
  · exact uencode_ok t w h
def stx (z:Int) (l:List UInt8) (x:Int):List UInt8 × List UInt8 × Int:=if x=0 then rdT z l else ([],l,x)
theorem rdTT_stx (l:List UInt8):rdTT l=((rdT 24 l).1,(stx 64 (rdT 24 l).2.1 (rdT 24 l).2.2).1,(stx 64 (rdT 24 l).2.1 (rdT 24 l).2.2).2.1,(stx 64 (rdT 24 l).2.1 (rdT 24 l).2.2).2.2):=by
  unfold rdTT stx
  split <;> rfl
theorem rtext_st (w:World) (r:Nat) (s:ByteArray) (x z:Int) (hR:Rd w r s x) :
    Calls Tryz.prog 167 #[.pointer (some ⟨r,0,none⟩),.int .i64 z] w fun e w'=>e=.returned (.string (str (stx z (bl s) x).1))∧Rd w' r (str (stx z (bl s) x).2.1) (stx z (bl s) x).2.2∧Only (fun k=>k=r) w w':=by
  unfold stx
  by_cases hx:x=0
  · subst hx
    rw [if_pos rfl]
    refine (rtext_any w r s z hR).mono ?_
    rintro e w' ⟨he,h1,h2⟩
    exact ⟨he,h1,h2⟩
  · rw [if_neg hx]
    refine (rtext_err w r x z hR.c1 (by simpa using hx)).mono ?_
    rintro e w' ⟨he,rfl⟩
    refine ⟨he,?_,Only.refl _ _⟩
    simp only [str_bl]
    exact hR
theorem rend_st (w:World) (r:Nat) (s:ByteArray) (x:Int) (hR:Rd w r s x) :
    Calls Tryz.prog 143 #[.pointer (some ⟨r,0,none⟩)] w fun e w'=>e=.returned (.int .i64 (endE (bl s) x))∧w'=w:=by
  unfold endE
  by_cases hx:x=0
  · subst hx
    rw [if_pos rfl,bl_len]
    exact rend_ok w r s hR.c1 hR.c0
  · rw [if_neg hx]
    exact rend_err w r x hR.c1 (by simpa using hx)
theorem of_two (s:ByteArray) (i:Nat) (h:i+2≤s.size) (w:World):Calls Tryz.prog 197 #[.string (s.extract i (i+2))] w fun e w'=>e=.returned (.int .i64 (ofTo (((bl s).drop i).take 2)))∧w'=w:=by
  have hl:=bl_len s
  have e1:(s.extract i (i+2)).data.toList=((bl s).drop i).take 2:=by
    have:=ext_blU s i (i+2)
    rwa [show i+2 - i=2 by omega] at this
  have l2:(((bl s).drop i).take 2).length=2:=by simp; omega
  have hb:=ofTo_small (((bl s).drop i).take 2) (by omega)
  rw [l2] at hb
  have hz:(s.extract i (i+2)).size=2:=by rw [← bl_len]; exact (congrArg List.length e1).trans l2
  have:=of_any (s.extract i (i+2)) w (by rw [hz]; decide)
  rw [e1,Int.emod_eq_of_lt hb.1 (by omega)] at this
  exact this
set_option maxHeartbeats 1600000 in
theorem udecode_head (s:ByteArray) (w:World) (h:headed (bl s)=false) :
    Calls Tryz.prog 189 #[.string s] w fun e w'=>e=.returned (.tuple #[noT.agg,.int .i64 110])∧Only (fun _=>False) w w':=by
  have HB:=hide (Tb.new w noT)
  have HO:=hide (onlyA w (.cells #[.int .i64 0,.int .i64 0,.bool false,.string ⟨#[]⟩,.string ⟨#[]⟩] 78))
  have hl:=bl_len s
  by_cases h5:5≤s.size
  · obtain ⟨a,r,h1,h2,h3⟩:=ext_first s (by omega)
    have hm:(a == 1 || a == 3)=false:=by
      unfold headed marked at h
      rw [h1] at h hl
      simpa [show 4≤r.length by simp at hl; omega] using h
    have HM:Hid (∀ W,Calls Tryz.prog 196 #[.string (s.extract 0 1)] W fun e w'=>e=.returned (.bool false)∧w'=W):=fun W=>by
      rw [h2,← hm]
      exact isMark_any a W
    have t5:(5:Int)≤(s.size:Int):=by omega
    clear h hl h1 h2 h3 hm h5
    go_enter Tryz.func189,Tryz.ntmps189
    go_wp2_with fail
    refine (HM.out _).mono ?_
    rintro e w1 ⟨rfl,rfl⟩
    go_wp2_with fail
    refine bodyPost_ret (results_tub rfl rfl HB.out) rfl ?_
    exact ⟨rfl,HO.out⟩
  · have t5:(s.size:Int) < 5:=by omega
    clear h hl h5
    go_enter Tryz.func189,Tryz.ntmps189
    go_wp2_with fail
    refine bodyPost_ret (results_tub rfl rfl HB.out) rfl ?_
    exact ⟨rfl,HO.out⟩
-- {good
structure Dst (w W:World) (D:ByteArray) (x:Int) (t:Tu):Prop where
  res:Tb W w.heap.size noT
  rd:Rd W (w.heap.size+1) D x
  tb:Tb W (w.heap.size+1+1) t
  only:Only (fun _=>False) w W
theorem Dst.new (w:World) (D:ByteArray) (f:Bool):Dst w (((w.alloc (.cells #[.int .i64 0,.int .i64 0,.bool false,.string ⟨#[]⟩,.string ⟨#[]⟩] 78)).alloc (.cells #[.string D,.int .i64 0] 233)).alloc (.cells #[.int .i64 0,.int .i64 0,.bool f,.string ⟨#[]⟩,.string ⟨#[]⟩] 78)) D 0 ⟨0,0,f,⟨#[]⟩,⟨#[]⟩⟩:=by
  refine ⟨((Tb.new w noT).more (onlyA _ _)).more (onlyA _ _),?_,?_,o2 (o2 (onlyA _ _) (onlyA _ _)) (onlyA _ _)⟩
  · have:=(Rd.new (w.alloc (.cells #[.int .i64 0,.int .i64 0,.bool false,.string ⟨#[]⟩,.string ⟨#[]⟩] 78)) D).alloc (.cells #[.int .i64 0,.int .i64 0,.bool f,.string ⟨#[]⟩,.string ⟨#[]⟩] 78)
    rw [World.size_alloc] at this
    exact this
  · have:=Tb.new ((w.alloc (.cells #[.int .i64 0,.int .i64 0,.bool false,.string ⟨#[]⟩,.string ⟨#[]⟩] 78)).alloc (.cells #[.string D,.int .i64 0] 233)) ⟨0,0,f,⟨#[]⟩,⟨#[]⟩⟩
    rw [World.size_alloc,World.size_alloc] at this
    exact this
theorem Dst.drew {w W:World} {D:ByteArray} {x:Int} {t:Tu} (h:Dst w W D x t):Dst w W.drew D x t :=
  ⟨h.res.more (Only.drew _ _),h.rd.kept (Only.drew (fun _=>False) _) (fun h=>h),h.tb.more (Only.drew _ _),o2 h.only (Only.drew _ _)⟩
theorem Dst.set {w W:World} {D:ByteArray} {x:Int} {t t':Tu} (h:Dst w W D x t) (i:Nat) (v:Value) (ht:Tb (W.setCell ⟨w.heap.size+1+1,i,none⟩ v) (w.heap.size+1+1) t'):Dst w (W.setCell ⟨w.heap.size+1+1,i,none⟩ v) D x t':=by
  have ho:Only (fun k=>k=w.heap.size+1+1) W (W.setCell ⟨w.heap.size+1+1,i,none⟩ v):=Only.setCell W _ v rfl
  exact ⟨h.res.kept ho (by omega),h.rd.kept ho (by omega),ht,h.only.trans ho (fun j hj e=>by omega)⟩
theorem Dst.text {w W W':World} {D D':ByteArray} {x x':Int} {t:Tu} (h:Dst w W D x t) (hr:Rd W' (w.heap.size+1) D' x') (ho:Only (fun k=>k=w.heap.size+1) W W'):Dst w W' D' x' t :=
  ⟨h.res.kept ho (by omega),hr,h.tb.kept ho (by omega),h.only.trans ho (fun j hj e=>by omega)⟩
theorem Dst.more {w W W':World} {D:ByteArray} {x:Int} {t:Tu} (h:Dst w W D x t) (ho:Only (fun _=>False) W W'):Dst w W' D x t :=
  ⟨h.res.more ho,h.rd.kept ho (fun h=>h),h.tb.more ho,o2 h.only ho⟩
def outT (o:Option Tu):Value:=.tuple #[(o.getD noT).agg,.int .i64 (if o.isSome then 0 else 110)]
set_option maxHeartbeats 3200000 in
theorem udecode_good (s:ByteArray) (w:World) (h:headed (bl s)=true) :
    Calls Tryz.prog 189 #[.string s] w fun e w'=>e=.returned (outT (decT (bl s)))∧Only (fun _=>False) w w':=by
  have hl:=bl_len s
  have h':=h
  unfold headed marked at h'
  simp only [Bool.and_eq_true,decide_eq_true_eq] at h'
  obtain ⟨h5,hm0⟩:=h'
  obtain ⟨a,r,h1,h2,h3⟩:=ext_first s (by omega)
  have hm:(a == 1 || a == 3)=true:=by
    rw [h1] at hm0
    simpa using hm0
  have HM:Hid (∀ W,Calls Tryz.prog 196 #[.string (s.extract 0 1)] W fun e w'=>e=.returned (.bool true)∧w'=W):=fun W=>by
    rw [h2,← hm]
    exact isMark_any a W
  have t5:(5:Int)≤(s.size:Int):=by omega
  have t3:(3:Int)≤(s.size:Int):=by omega
  have hfz:((s.extract 0 1).toList == [3])=((bl s).head? == some 3):=by
    rw [h2,h1]
    simp [ByteArray.toList_eq]
  obtain ⟨D,hD⟩:=exq (s.extract 5 s.size)
  have bD:bl D=(bl s).drop 5:=by rw [← hD,ext_blU]; exact List.take_of_length_le (by simp)
  obtain ⟨fz,efz⟩:=exq (((bl s).head? == some 3))
  rw [efz] at hfz
  obtain ⟨q1,hq1⟩:=exq (ofTo (((bl s).drop 1).take 2))
  obtain ⟨q2,hq2⟩:=exq (ofTo (((bl s).drop 3).take 2))
  have bq:(0≤q1∧q1 < 65536)∧(0≤q2∧q2 < 65536):=by
    have e1:=ofTo_small (((bl s).drop 1).take 2) (by simp; omega)
    have e2:=ofTo_small (((bl s).drop 3).take 2) (by simp; omega)
    have l1:(((bl s).drop 1).take 2).length=2:=by simp; omega
    have l2:(((bl s).drop 3).take 2).length=2:=by simp; omega
    rw [l1,hq1] at e1
    rw [l2,hq2] at e2
    omega
  have HOF1:Hid (∀ W,Calls Tryz.prog 197 #[.string (s.extract 1 3)] W fun e w'=>e=.returned (.int .i64 q1)∧w'=W):=fun W=>by
    rw [← hq1]
    exact of_two s 1 (by omega) W
  have HOF2:Hid (∀ W,Calls Tryz.prog 197 #[.string (s.extract 3 5)] W fun e w'=>e=.returned (.int .i64 q2)∧w'=W):=fun W=>by
    rw [← hq2]
    exact of_two s 3 (by omega) W
  obtain ⟨A1,hA1⟩:=exq (s.extract 1 3)
  obtain ⟨A2,hA2⟩:=exq (s.extract 3 5)
  rw [hA1] at HOF1
  rw [hA2] at HOF2
  obtain ⟨P,hP⟩:=exq (stx 24 (bl D) 0)
  obtain ⟨R,hR⟩:=exq (stx 64 P.2.1 P.2.2)
  have HRAW:Hid (rawT (bl s)=⟨q1,q2,fz,str P.1,str R.1⟩∧endT ((bl s).drop 5)=endE R.2.1 R.2.2):=by
    have e0:rdT 24 ((bl s).drop 5)=P:=by rw [← hP,bD]; rfl
    have e1:=rdTT_stx ((bl s).drop 5)
    rw [e0,hR] at e1
    unfold rawT endT
    rw [e1,hq1,hq2,efz]
    exact ⟨rfl,rfl⟩
  have HP:Hid (stx 24 (bl D) 0=P):=hP
  have HR:Hid (stx 64 P.2.1 P.2.2=R):=hR
  have HD:=hide hD
  have HH:=hide h
  obtain ⟨K1,hK1⟩:=exq (str P.1)
  obtain ⟨V1,hV1⟩:=exq (str R.1)
  rw [hK1,hV1] at HRAW
  have HK1:=hide hK1
  have HV1:=hide hV1
  obtain ⟨E,hE⟩:=exq (endE R.2.1 R.2.2)
  rw [hE] at HRAW
  have HE:=hide hE
  obtain ⟨O,hO⟩:=exq (Tu.ok ⟨q1,q2,fz,K1,V1⟩)
  have HOK:Hid (∀ W,Calls Tryz.prog 79 #[.agg #[.int .i64 q1,.int .i64 q2,.bool fz,.string K1,.string V1]] W fun e w'=>e=.returned (.bool O)∧Only (fun _=>False) W w'):=fun W=>by
    rw [← hO]
    exact isVersion_any ⟨q1,q2,fz,K1,V1⟩ W ⟨by simp only; omega,by simp only; omega⟩ ⟨by simp only; omega,by simp only; omega⟩
  have HDE:Hid (decT (bl s)=if E=0∧O=true then some ⟨q1,q2,fz,K1,V1⟩ else none):=by
    unfold Hid decT goodT
    rw [HRAW.out.1,HRAW.out.2,h,hO]
    by_cases e1:E=0 <;> cases O <;> simp [e1]
  clear h1 h2 h3 hm hm0 efz hD bD h hl hP hR hK1 hV1 hE hO hq1 hq2 h5 bq HRAW
  go_enter Tryz.func189,Tryz.ntmps189
  go_wp2_with fail
  refine (HM.out _).mono ?_
  rintro e w1 ⟨rfl,rfl⟩
  go_wp2_with fail
  rw [HD.out]
  refine (read_any D _).mono ?_
  rintro e w2 ⟨rfl,rfl⟩
  go_upto_region 5 with fail
  have H0:=hide (Dst.new w D fz)
  obtain ⟨W0,hW0⟩:=exq (((w.alloc (.cells #[.int .i64 0,.int .i64 0,.bool false,.string ⟨#[]⟩,.string ⟨#[]⟩] 78)).alloc (.cells #[.string D,.int .i64 0] 233)).alloc (.cells #[.int .i64 0,.int .i64 0,.bool fz,.string ⟨#[]⟩,.string ⟨#[]⟩] 78))
  rw [hW0] at H0 ⊢
  clear hW0
  have c0:=H0.out.tb.c0
  have f0:=H0.out.tb.f0
  have c1:=H0.out.tb.c1
  have f1:=H0.out.tb.f1
  refine wp_region_noPanic ?_
  refine wp_region_held_drew (S:=fun W=>Only (fun k=>k=w.heap.size+1+1) W0 W) (by kernel_rfl) (Only.drew _ _) (fun hHeld=>?_)
  refine tkP 0 (.string s) rfl ?_
  refine tkP 3 (.string s) rfl ?_
  refine tkP 1 (.string A1) rfl ?_
  refine tkP 4 (.string A2) rfl ?_
  refine rd1 2 rfl (fun K hK=>?_)
  go_simp
  refine (HOF1.out _).mono ?_
  rintro e _ ⟨rfl,rfl⟩
  refine hK.out _ _ (Only.drew _ _) (fun hHeld=>?_)
  clear hK K
  try simp only [Act.put,lsA,lsB,lsC]
  refine tkP 6 (.pointer (some ⟨w.heap.size+1+1,0,none⟩)) rfl ?_
  refine rd1 5 rfl (fun K hK=>?_)
  go_simp
  refine (HOF2.out _).mono ?_
  rintro e _ ⟨rfl,rfl⟩
  refine hK.out _ _ (Only.drew _ _) (fun hHeld=>?_)
  clear hK K
  try simp only [Act.put,lsA,lsB,lsC]
  refine rd1 7 rfl (fun K hK=>?_)
  go_simp
  refine hK.out _ _ ((Only.drew _ _).trans (Only.setCell (S:=fun k=>k=w.heap.size+1+1) _ _ _ rfl) (fun _ _ h=>h)) (fun hHeld=>?_)
  clear hK K
  try simp only [Act.put,lsA,lsB,lsC]
  refine tkP 8 (.pointer (some ⟨w.heap.size+1+1,1,none⟩)) rfl ?_
  refine rd1 9 rfl (fun K hK=>?_)
  go_simp
  refine hK.out _ _ (((Only.drew _ _).trans (Only.setCell (S:=fun k=>k=w.heap.size+1+1) _ _ _ rfl) (fun _ _ h=>h)).trans (Only.setCell (S:=fun k=>k=w.heap.size+1+1) _ _ _ rfl) (fun _ _ h=>h)) (fun hHeld=>?_)
  clear hK K
  try simp only [Act.put,lsA,lsB,lsC]
  refine dnN ?_
  rw [Exit.then]
  have H1:=hide ((H0.out.set 0 _ (H0.out.tb.s0 q1)).set 1 _ ((H0.out.tb.s0 q1).s1 q2)).drew
  clear c0 f0 c1 f1 hHeld
  obtain ⟨W1,hW1⟩:=exq (((W0.setCell ⟨w.heap.size+1+1,0,none⟩ (.int .i64 q1)).setCell ⟨w.heap.size+1+1,1,none⟩ (.int .i64 q2)).drew)
  rw [hW1] at H1 ⊢
  clear hW1
  go_wp2_with fail
  refine (rtext_st _ _ D 0 24 H1.out.rd).mono ?_
  rintro e W2 ⟨rfl,hr2,ho2⟩
  rw [HP.out] at hr2 ⊢
  rw [HK1.out]
  have H2:=hide (H1.out.text hr2 ho2)
  clear hr2 ho2
  have c3:=H2.out.tb.c3
  have f3:=H2.out.tb.f3
  go_wp2_with fail
  have H3:=hide (H2.out.set 3 _ (H2.out.tb.s3 K1))
  clear c3 f3
  refine (rtext_st _ _ (str P.2.1) P.2.2 64 H3.out.rd).mono ?_
  rintro e W4 ⟨rfl,hr4,ho4⟩
  rw [bl_str,HR.out] at hr4 ⊢
  rw [HV1.out]
  have H4:=hide (H3.out.text hr4 ho4)
  clear hr4 ho4
  have c4:=H4.out.tb.c4
  have f4:=H4.out.tb.f4
  go_wp2_with fail
  have H5:=hide (H4.out.set 4 _ (H4.out.tb.s4 V1))
  clear c4 f4
  obtain ⟨W5,hW5⟩:=exq (W4.setCell ⟨w.heap.size+1+1,4,none⟩ (.string V1))
  rw [hW5] at H5 ⊢
  clear hW5
  refine (rend_st _ _ (str R.2.1) R.2.2 H5.out.rd).mono ?_
  rintro e W6 ⟨rfl,rfl⟩
  rw [bl_str,HE.out]
  have c0:=H5.out.tb.c0
  have c1:=H5.out.tb.c1
  have c2:=H5.out.tb.c2
  have c3:=H5.out.tb.c3
  have c4:=H5.out.tb.c4
  have HQ:Hid (∀ W',Only (fun _=>False) W6 W'→Tb W' w.heap.size noT):=fun W' hW'=>H5.out.res.more hW'
  simp only at c0 c1 c2 c3 c4
  by_cases he:E=0
  · subst he
    have HDX:Hid (decT (bl s)=if O=true then some ⟨q1,q2,fz,K1,V1⟩ else none):=by unfold Hid; rw [HDE.out]; simp
    go_wp2_with fail
    refine (HOK.out _).mono ?_
    rintro e W7 ⟨rfl,ho7⟩
    have H7:=hide (H5.out.more ho7)
    clear ho7
    have r0:=H7.out.res.c0
    have r1:=H7.out.res.c1
    have r2:=H7.out.res.c2
    have r3:=H7.out.res.c3
    have r4:=H7.out.res.c4
    have g0:=H7.out.res.f0
    have g1:=H7.out.res.f1
    have g2:=H7.out.res.f2
    have g3:=H7.out.res.f3
    have g4:=H7.out.res.f4
    clear c0 c1 c2 c3 c4
    have c0:=H7.out.tb.c0
    have c1:=H7.out.tb.c1
    have c2:=H7.out.tb.c2
    have c3:=H7.out.tb.c3
    have c4:=H7.out.tb.c4
    simp only at c0 c1 c2 c3 c4
    cases O
    · go_wp2_with fail
      refine bodyPost_ret (results_tub rfl rfl (H7.out.res.all noT)) rfl ?_
      exact ⟨by rw [HDX.out]; rfl,H7.out.only.trans (Only.fiveU _ _ _ _ _ _ _) (fun i hi e=>by omega)⟩
    · go_wp2_with fail
      refine bodyPost_ret (results_tub rfl rfl (H7.out.res.all ⟨q1,q2,fz,K1,V1⟩)) rfl ?_
      exact ⟨by rw [HDX.out]; rfl,H7.out.only.trans (Only.fiveU _ _ _ _ _ _ _) (fun i hi e=>by omega)⟩
  · have he':(E != 0)=true:=by simpa using he
    have HDX:Hid (decT (bl s)=none):=by unfold Hid; rw [HDE.out,if_neg (fun h=>he h.1)]
    clear he c0 c1 c2 c3 c4
    have r0:=H5.out.res.c0
    have r1:=H5.out.res.c1
    have r2:=H5.out.res.c2
    have r3:=H5.out.res.c3
    have r4:=H5.out.res.c4
    have g0:=H5.out.res.f0
    have g1:=H5.out.res.f1
    have g2:=H5.out.res.f2
    have g3:=H5.out.res.f3
    have g4:=H5.out.res.f4
    go_wp2_with fail
    refine bodyPost_ret (results_tub rfl rfl (H5.out.res.all noT)) rfl ?_
    exact ⟨by rw [HDX.out]; rfl,H5.out.only.trans (Only.fiveU _ _ _ _ _ _ _) (fun i hi e=>by omega)⟩
theorem udecode_any (s:ByteArray) (w:World) :
    Calls Tryz.prog 189 #[.string s] w fun e w'=>e=.returned (outT (decT (bl s)))∧Only (fun _=>False) w w':=by
  cases h:headed (bl s)
  · have e:decT (bl s)=none:=by unfold decT goodT; rw [h]; rfl
    rw [e]
    exact udecode_head s w h
  · exact udecode_good s w h
end Go.Proofs.YtajjakljheafjaaGreat
