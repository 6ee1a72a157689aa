/- Parts. -/
import Derived.Test.YtajjakljheafjaaGreatK45
import Derived.Test.YtajjakljheafjaaGreatK48
import Derived.Test.YtajjakljheafjaaGreatK49
set_option maxRecDepth 100000
namespace Go.Proofs.YtajjakljheafjaaGreat
open Go.ChangeShapes Go.WideShapes Go.ChangeAt Go.RowKit Go.Deep
structure Shs (w:World) (B:Nat) (ao:Option Addr) (l:List Sh):Prop where
  at_:0 < l.length→∃ o,ao=some ⟨B,o,none⟩∧∀ j (h:j < l.length),w.rangeAt B (o+j * 22) l[j].cl
  lt:0 < l.length→B < w.heap.size
  each:∀ z ∈ l,ShO w z
  len:l.length≤17592186043904
theorem Shs.nil (w:World) (B:Nat) (ao:Option Addr):Shs w B ao []:=⟨fun h=>absurd h (by simp),fun h=>absurd h (by simp),(fun _ h=>by cases h),by simp⟩
theorem Shs.kept {w w':World} {B:Nat} {ao:Option Addr} {l:List Sh} {S:Nat→Prop} (h:Shs w B ao l) (ho:Only S w w') (hS:∀ b,S b→w.heap.size≤b):Shs w' B ao l :=
  ⟨fun h0=>by
    obtain ⟨o,e,hc⟩:=h.at_ h0
    have hl:=h.lt h0
    exact ⟨o,e,fun j hj i v hv=>(ho.cell (p:=⟨B,o+j * 22+i,none⟩) hl (fun e=>by have q:w.heap.size≤B:=hS _ e; omega)).trans (hc j hj i v hv)⟩,
   fun h0=>Nat.lt_of_lt_of_le (h.lt h0) ho.size,fun z hz=>(h.each z hz).kept ho hS,h.len⟩
theorem shows_of_trod {H:Type} {enc:TypeId × Value→H} {W:World} {c:Value} {x:DataW H × List MemPlace} {n:Nat} (h:DataW.trod enc Tryz.prog W 0 (fun _=>true) true n 25 [c]=some x) (hw:∀ m ∈ x.1.weights Tryz.prog 25,m≤reachBytes) :
    ∃ (B:Nat) (ao:Option Addr) (cp:Nat) (l:List Sh),c=.slice ao l.length cp∧Shs W B ao l:=by
  have hb16:8≤Tryz.prog.bytesOf 44:=of_decide_eq_true (by kernel_rfl)
  rcases slice_reach Tryz.underlying25 h hw hb16 with rfl | ⟨a,len,cap,m,D,Pl,rfl,hl,hm,hc,hit,hwe⟩
  · exact ⟨0,none,0,[],rfl,Shs.nil _ _ _⟩
  · by_cases hl0:len=0
    · subst hl0
      exact ⟨0,some a,cap,[],rfl,Shs.nil _ _ _⟩
    have ha:a=⟨a.block,a.off,none⟩:=by
      obtain ⟨cs',h1,h2⟩:=hit 0 (by omega)
      rw [Tryz.cellsShow] at h1
      obtain ⟨_,hlen,hcell⟩:=World.cells?_some h1
      have c0:=hcell 0 (by omega)
      rw [add_add,Nat.zero_mul,add0] at c0
      match cs',hlen with
      | v0 :: _,_=>exact cell_spot (v:=v0) (by simpa using c0)
    have inh:Inhabited Sh:=⟨⟨0,.none,0,none,0,⟨0,0,[],0,[],.none⟩,⟨0,none,0,0,none,0,0,none,0⟩,[],0,none,0,false,0,0⟩⟩
    have one:∀ i,i < len→∃ z:Sh,W.rangeAt a.block (a.off+i * 22) z.cl∧ShO W z:=fun i hi=>by
      obtain ⟨cs',h1,h2⟩:=hit i (by omega)
      rw [Tryz.cellsShow] at h1
      obtain ⟨_,hlen,hcell⟩:=World.cells?_some h1
      match cs',hlen with
      | [v0,v1,v2,v3,v4,v5,v6,v7,v8,v9,v10,v11,v12,v13,v14,v15,v16,v17,v18,v19,v20,v21],_=>
        obtain ⟨r,he,hat⟩:=show_of_trod h2 (hwe i hi)
        refine ⟨r,fun j u hu=>?_,hat⟩
        have hu':[v0,v1,v2,v3,v4,v5,v6,v7,v8,v9,v10,v11,v12,v13,v14,v15,v16,v17,v18,v19,v20,v21][j]?=some u:=by rw [he]; exact hu
        have hj:j < 22:=(List.getElem?_eq_some_iff.1 hu').1
        have cj:=hcell j (by omega)
        rw [add_add,ha,add_at] at cj
        have e1:a.off+i * 22+j=a.off+(i * 22+j):=by omega
        rw [e1]
        rw [← hu']
        simpa using cj
    obtain ⟨q,hq⟩:=choose_lt (n:=len) one
    have hlen:((List.range len).map q).length=len:=by simp
    refine ⟨a.block,some a,cap,(List.range len).map q,by rw [hlen],⟨fun h0=>⟨a.off,by rw [← ha],fun j hj=>?_⟩,fun h0=>?_,fun z hz=>?_,?_⟩⟩
    · rw [hlen] at hj
      simpa using (hq j hj).1
    · have c0:=(hq 0 (by omega)).1 0 (.int .i64 (q 0).ask) rfl
      exact World.block_lt_of_cell? W ⟨a.block,a.off+0 * 22+0,none⟩ c0
    · obtain ⟨j,hj,rfl⟩:=List.mem_map.1 hz
      exact (hq j (List.mem_range.1 hj)).2
    · rw [hlen]
      omega
theorem Tryz.cellsAsk:Tryz.prog.cellsOf 24=5:=by kernel_rfl
theorem Tryz.cellsCall:Tryz.prog.cellsOf 22=1:=by kernel_rfl
theorem open_ask {H:Type} {enc:TypeId × Value→H} {W:World} {base:Nat} {v:Value} {d:DataW H} {ps:List MemPlace} (hok:Value.okWide Tryz.prog W .any base 24 v) (h:DataW.Trod enc Tryz.prog W 0 (fun _=>true) true 24 v d ps)
    (_hw:∀ m ∈ d.weights Tryz.prog 24,m≤reachBytes):∃ a:Aq,v=.agg a.ar∧I64 a.n∧(0≤a.c∧a.c≤255):=by
  obtain ⟨cs,rfl,hs⟩:=okWide_struct Tryz.underlying24 hok
  obtain ⟨fuel,hf⟩:=h
  rw [Tryz.cellsAsk] at hs
  obtain ⟨xs,n,_,hx,_,hlen,hfs⟩:=DataW.trod_struct Tryz.underlying24 hf
  obtain ⟨c0,c1,c2,c3,c4,rfl⟩:∃ c0 c1 c2 c3 c4,cs=#[c0,c1,c2,c3,c4]:=by
    obtain ⟨l⟩:=cs
    match l,hs with
    | [c0,c1,c2,c3,c4],_=>exact ⟨c0,c1,c2,c3,c4,rfl⟩
  match xs,hlen with
  | [y0,y1,y2,y3,y4],_=>
    have g0:=hfs 0 _ rfl
    have g1:=hfs 1 _ rfl
    have g2:=hfs 2 _ rfl
    have g3:=hfs 3 _ rfl
    have g4:=hfs 4 _ rfl
    simp [Value.cells,Tryz.cellsInt,Tryz.cellsStr,Tryz.cellsCall] at g0 g1 g2 g3 g4
    obtain ⟨a,e0,_,w0⟩:=DataW.trod_int Tryz.underlying22 g0
    obtain ⟨k,e1,_,_⟩:=DataW.trod_string Tryz.underlying9 g1
    obtain ⟨t,e2,_,_⟩:=DataW.trod_string Tryz.underlying9 g2
    obtain ⟨u,e3,_,_⟩:=DataW.trod_string Tryz.underlying9 g3
    obtain ⟨b,e4,_,w4⟩:=DataW.trod_int Tryz.underlying3 g4
    simp at e0 e1 e2 e3 e4
    subst e0 e1 e2 e3 e4
    have b0:=bounds_u8 w0
    have b4:=bounds_i64 w4
    exact ⟨⟨a,k,t,u,b⟩,rfl,⟨b4.1,by show b < _; omega⟩,by show 0≤a; omega,by show a≤255; omega⟩
end Go.Proofs.YtajjakljheafjaaGreat
namespace Go.Proofs.YtajjakljheafjaaGreat
open Go.RowKit
abbrev pvS (s:Sh):Pv:=⟨s.p.lsn,s.p.kind,s.p.level,s.p.right,s.p.high,s.pa,s.p.items.length,s.pc⟩
abbrev wantV (k:Int) (t:ByteArray) (s g:Int):Value:=.agg #[.int .i64 k,.string t,.int .i64 s,.int .i64 g]
theorem neW_run (k:Int) (t:ByteArray) (s g:Int) (w:World):(binOp .neq 32 (wantV k t s g) (wantV k t s g)).run Tryz.prog w=.ok (.bool false) w:=by
  simp [go_sem]
end Go.Proofs.YtajjakljheafjaaGreat
namespace Go.Proofs.YtajjakljheafjaaGreat
open Go.RowKit
theorem hits_any (a:Int) (k v r:Int) (h:ByteArray) (B cp:Nat) (ao:Option Addr) (l:List ByteArray) (w:World) (hP:PgA w a h B ao l) (f t:ByteArray):∃ (L:List En) (m:Bool) (er:Int),L.length≤1000000 ∧
    ∀ W,PgA W a h B ao l→Calls Tryz.prog 93 #[pA a k v r h ao l.length cp,.string f,.string t] W fun x w'=>HtA W w' x L m er:=by
  by_cases hb:ckB a k v r h l=false∨¬ v=0
  · exact ⟨[],false,140,by simp,fun W hW=>hits_no W a k v r h B cp ao l hW hb f t⟩
  · have h1:ckB a k v r h l=true:=by
      cases q:ckB a k v r h l
      · exact absurd (.inl q) hb
      · rfl
    have h2:v=0:=Decidable.byContradiction (fun q=>hb (.inr q))
    obtain ⟨h0,X,hG,rfl,hv,rfl,rfl,rfl⟩:=ckB_node h1
    have hx:X.lv=0:=by omega
    have hlen:(X.es.filter (hitB f t)).length≤1000000:=by
      have q1:=List.length_filter_le (hitB f t) X.es
      have q2:=(hG.nm hP.strs).few
      rw [Nd.es_len] at q1
      omega
    refine ⟨X.es.filter (hitB f t),decide (X.rt≠0) && X.goOn t,0,hlen,fun W hW=>?_⟩
    have:=hits_leaf W X a B cp ao (hG.nm hW.strs) ⟨h0,hW.lsn⟩ hx f t W (Only.refl _ _)
    rw [hv]
    exact this
theorem ShO.pgA {w:World} {s:Sh} (h:ShO w s):PgA w s.p.lsn s.p.high s.pB s.pa s.p.items:=⟨h.strs,h.pb.few,h.pb.high,h.pb.lsn.2⟩
structure EB (P:Pn):Prop where
  own:I64 P.own
  key:P.key.size≤24
  few:P.rows.length≤15
  n:P.call=5→(P.rows.length:Int) < P.n∧P.n≤16
def Shn (P:Pn):Prop :=
  (P.sh=some 92∧(P.th=some 51∨P.th=some 108)∧0≤P.seen∧P.seen≤4095)∨P.sh=some 51∨(P.sh=some 135∧∃ e es,P.hits=e :: es∧P.hits.length≤P.hc∧es.length≤1000000)∨P.sh=some 164∨P.sh=some 36
def Ovd (P:Pn):Prop:=P.wk=4∧P.wkey=⟨#[]⟩∧P.ws=0∧P.wp=0∧P.rows.length≤16
def EndI (P:Pn):Prop:=Ovd P∨(EB P∧(P.wk=1∨P.wk=2∨(P.wk=3∧Shn P)))
theorem over_E (er:Int) (f:Bool) (v:ByteArray):EndI (Pn.over er f v none [] 0):=.inl ⟨rfl,rfl,rfl,rfl,Nat.zero_le _⟩
theorem fl_E {P:Pn} (h:EndI P) (e:Int):EndI (P.fl e):=by
  unfold Pn.fl
  by_cases q:P.wk=4
  · rw [if_pos q]; exact h
  · rw [if_neg q]; exact over_E e _ _
theorem flB_E {P:Pn} (h:P.wk=3) (e:Int):EndI (P.fl e):=by
  unfold Pn.fl
  rw [if_neg (by rw [h]; decide)]
  exact over_E e _ _
theorem fin_E {P:Pn} (h:EB P):EndI P.fin:=.inl ⟨rfl,rfl,rfl,rfl,by have:=h.few; show P.rows.length≤16; omega⟩
theorem wsp_E {P:Pn} (h:EB P):EndI P.wsp:=.inr ⟨⟨h.own,h.key,h.few,h.n⟩,.inr (.inl rfl)⟩
theorem gon_E {P:Pn} (h:EB P):EndI P.gon:=by
  unfold Pn.gon
  split
  · exact fin_E h
  · exact wsp_E h
theorem lkd_E {P:Pn} (h:EB P):EndI P.lkd:=by
  unfold Pn.lkd
  split
  · split
    · exact .inr ⟨⟨h.own,h.key,h.few,h.n⟩,.inr (.inr ⟨rfl,.inr (.inr (.inr (.inl rfl)))⟩)⟩
    · exact gon_E h
  · exact fin_E h
theorem lko_E {P:Pn} (h:EB P) (h1:P.hits.length≤P.hc) (h2:P.hits.length≤1000001):EndI P.lko:=by
  unfold Pn.lko
  cases hh:P.hits with
  | nil=>
    simp only []
    split
    · exact .inr ⟨⟨h.own,h.key,h.few,h.n⟩,.inr (.inr ⟨rfl,.inr (.inl rfl)⟩)⟩
    · exact lkd_E h
  | cons e es=>
    simp only []
    rw [hh] at h2
    exact .inr ⟨⟨h.own,h.key,h.few,h.n⟩,.inr (.inr ⟨rfl,.inr (.inr (.inl ⟨rfl,e,es,hh,h1,by simpa using h2⟩))⟩)⟩
theorem thr_E {P:Pn} (h:EB P) (hk:P.wk=3) {A:Option Addr} {C:Nat} {L:List En} {m:Bool} {r er:Int} (h1:L.length≤C) (h2:L.length≤1000000):EndI (P.thr A C L m r er):=by
  unfold Pn.thr
  by_cases he:er=0
  · rw [if_pos he]
    exact lko_E ⟨h.own,h.key,h.few,h.n⟩ h1 (by show L.length≤1000001; omega)
  · rw [if_neg he]
    exact flB_E hk 60
theorem lat_E {P:Pn} (h:EB P) (hk:P.wk=3) {e:En} {es:List En} (hh:P.hits=e :: es) (h1:P.hits.length≤P.hc) (h2:es.length≤1000000) (nw vis:Bool) (o:Option Tu) (ra:Option Addr) (rc:Nat):EndI (P.lat es nw vis e o ra rc):=by
  have hT:EB (P.tl es):=⟨h.own,h.key,h.few,h.n⟩
  have hc:es.length≤P.hc - 1:=by rw [hh] at h1; simp at h1; omega
  have key:∀ Q:Pn,P.lat0 es nw vis e o ra rc=Q→(Q.wk=3∧EB Q∧Q.hits.length≤Q.hc∧Q.hits.length≤1000001)∨(Q.wk=4∧EndI Q)→EndI (P.lat es nw vis e o ra rc):=fun Q hQ hx=>by
    unfold Pn.lat
    rw [hQ]
    rcases hx with ⟨q0,q1,q2,q3⟩ | ⟨q1,q2⟩
    · rw [if_neg (by rw [q0]; decide)]
      exact lko_E q1 q2 q3
    · rw [if_pos q1]
      exact q2
  cases o with
  | none=>exact key (P.tl es) rfl (.inl ⟨hk,hT,hc,by show es.length≤1000001; omega⟩)
  | some t=>
    have e0:P.lat0 es nw vis e (some t) ra rc=(P.tl es).jdg nw vis e t ra rc:=rfl
    unfold Pn.jdg at e0
    by_cases h0:(P.tl es).chg=true∧nw=true
    · rw [if_pos h0] at e0
      have hx:(P.tl es).fl 180=Pn.over 180 false ⟨#[]⟩ none [] 0:=by
        unfold Pn.fl
        rw [if_neg (by show ¬ P.wk=4; rw [hk]; decide)]
      rw [hx] at e0
      exact key _ e0 (.inr ⟨rfl,over_E _ _ _⟩)
    · rw [if_neg h0] at e0
      by_cases hv:vis=true
      · rw [if_pos hv] at e0
        by_cases h2c:(P.tl es).call=2
        · rw [if_pos h2c] at e0
          exact key _ e0 (.inr ⟨rfl,over_E _ _ _⟩)
        · rw [if_neg h2c] at e0
          by_cases h5:(P.tl es).call=5
          · rw [if_pos h5] at e0
            obtain ⟨hlt,hn⟩:=h.n h5
            have hlen:(((P.tl es).rows++[(t.key,t.value)]).length:Int)=P.rows.length+1:=by
              rw [List.length_append]
              show ((P.rows.length+1:Nat):Int)=_
              omega
            have e1:(P.tl es).n=P.n:=rfl
            unfold Pn.add at e0
            rw [hlen,e1] at e0
            by_cases hq:(P.rows.length:Int)+1=P.n
            · rw [if_pos hq] at e0
              refine key _ e0 (.inr ⟨rfl,.inl ⟨rfl,rfl,rfl,rfl,?_⟩⟩)
              show ((P.tl es).rows++[(t.key,t.value)]).length≤16
              omega
            · rw [if_neg hq] at e0
              refine key _ e0 (.inl ⟨hk,⟨h.own,h.key,?_,fun _=>⟨?_,hn⟩⟩,hc,by show es.length≤1000001; omega⟩)
              · show ((P.tl es).rows++[(t.key,t.value)]).length≤15
                omega
              · show (((P.tl es).rows++[(t.key,t.value)]).length:Int) < P.n
                rw [hlen]; omega
          · rw [if_neg h5] at e0
            exact key _ e0 (.inl ⟨hk,⟨h.own,h.key,h.few,h.n⟩,hc,by show es.length≤1000001; omega⟩)
      · rw [if_neg hv] at e0
        exact key _ e0 (.inl ⟨hk,hT,hc,by show es.length≤1000001; omega⟩)
theorem ent_E {P:Pn} (h:EB P) (e:En) (lv:Int) (s:ByteArray):EndI (P.ent e lv s):=.inr ⟨⟨h.own,h.key,h.few,h.n⟩,.inr (.inr ⟨rfl,.inl ⟨rfl,.inr rfl,by show (0:Int)≤0; decide,by show (0:Int)≤4095; decide⟩⟩)⟩
theorem lks_E {P:Pn} (h:EB P):EndI P.lks:=.inr ⟨⟨h.own,h.key,h.few,h.n⟩,.inr (.inr ⟨rfl,.inl ⟨rfl,.inl rfl,by show (0:Int)≤0; decide,by show (0:Int)≤4095; decide⟩⟩)⟩
theorem spc_E {P:Pn} (h:EndI P) (n:Int):EndI (P.spc n):=by
  unfold Pn.spc
  by_cases q:P.wk=2
  · rw [if_pos q]
    rcases h with ⟨h1,_⟩ | ⟨hB,_⟩
    · rw [q] at h1; exact absurd h1 (by decide)
    · exact .inr ⟨⟨hB.own,hB.key,hB.few,hB.n⟩,.inr (.inr ⟨rfl,.inr (.inr (.inr (.inr rfl)))⟩)⟩
  · rw [if_neg q]; exact h
theorem lck_E {P:Pn} (h:EndI P) (g:Bool) (e:Int):EndI (P.lck g e):=by
  unfold Pn.lck
  by_cases q:P.wk=1
  · rw [if_pos q]
    split
    · split
      · rcases h with ⟨h1,_⟩ | ⟨hB,_⟩
        · rw [q] at h1; exact absurd h1 (by decide)
        · exact lks_E hB
      · exact h
    · exact fl_E h e
  · rw [if_neg q]; exact h
theorem begun_E {a:Aq} {own:Int} (ho:I64 own) (h:a.ok own=true):EndI (Pn.begun a own):=by
  have hb:EB (Pn.start a own):=by
    refine ⟨ho,?_,Nat.zero_le _,fun q=>?_⟩
    · show a.key.size≤24
      unfold Aq.ok keyB at h
      split at h
      · simp only [Bool.and_eq_true,decide_eq_true_eq] at h; exact h.2
      · split at h
        · simp only [Bool.and_eq_true,decide_eq_true_eq] at h; exact h.1.2
        · split at h
          · simp only [Bool.and_eq_true,decide_eq_true_eq] at h; exact h.1.2
          · split at h
            · simp only [Bool.and_eq_true,decide_eq_true_eq] at h; exact h.1
            · cases h
    · have q2:a.c=5:=q
      unfold Aq.ok at h
      rw [if_neg (by omega),if_neg (by omega),if_neg (by omega),if_pos q2] at h
      simp only [Bool.and_eq_true,decide_eq_true_eq] at h
      show ((0:Nat):Int) < a.n∧a.n≤16
      omega
  unfold Pn.begun
  split
  · exact .inr ⟨⟨hb.own,hb.key,hb.few,hb.n⟩,.inl rfl⟩
  · exact lks_E hb
theorem page_end (w:World) (Z:Nat→Prop) (p:Nat) (P:Pn) (h:Pm w Z p P) (hI:EndI P) (s:Sh) (n:Nat) (hs:ShO w s) (hl:ShL n s) (hz:∀ b,Z b→n≤b) :
    Calls Tryz.prog 12 #[.pointer (some ⟨p,0,none⟩),.agg (vvO s.V s.q).ar,.agg (pvS s).ar,.slice s.fa s.fr.length s.fc] w (SQ w Z p (fun P' _ is=>EndI P'∧(P.wk=4→is=false∧P'=P))):=by
  have hout:SnOut s.V s.q Z:=⟨fun q e=>by have:=hl.a q; have:=hz _ e; omega,fun q e=>by have:=hl.r q; have:=hz _ e; omega,fun q e=>by have:=hl.g q; have:=hz _ e; omega⟩
  have hpB:0 < s.p.items.length→¬ Z s.pB:=fun q e=>by have:=hl.p q; have:=hz _ e; omega
  have hfB:0 < s.fr.length→¬ Z s.fB:=fun q e=>by have:=hl.f q; have:=hz _ e; omega
  have no:(P.wk=4∨P.wk=1∨P.wk=2)→Calls Tryz.prog 12 #[.pointer (some ⟨p,0,none⟩),.agg (vvO s.V s.q).ar,.agg (pvS s).ar,.slice s.fa s.fr.length s.fc] w (SQ w Z p (fun P' _ is=>EndI P'∧(P.wk=4→is=false∧P'=P))):=fun hk=>by
    refine (page_no w _ (vvO s.V s.q) (pvS s) s.fa s.fr.length s.fc (fun W ho=>?_)).mono (fun e w' k=>?_)
    · have:=wants_any W Z p P (h.more ho) 3
      rcases hk with q | q | q
      all_goals rw [q] at this
      all_goals exact this
    · obtain ⟨rfl,ho⟩:=k
      exact ⟨Z,P,Hr.none.cl,false,⟨rfl,rfl,rfl⟩,fun _ _ q=>q,h.more ho,ho.mono (fun _ _ e=>e.elim),hI,fun _=>⟨rfl,rfl⟩⟩
  rcases id hI with ⟨hk,_⟩ | ⟨hB,hk | hk | ⟨hk,hst⟩⟩
  · exact no (.inl hk)
  · exact no (.inr (.inl hk))
  · exact no (.inr (.inr hk))
  · have h4:¬ P.wk=4:=by rw [hk]; decide
    have fit:∀ {R:Pn→List Value→Bool→Prop},(∀ P' cs is,R P' cs is→EndI P')→∀ P' cs is,R P' cs is→EndI P'∧(P.wk=4→is=false∧P'=P):=fun f P' cs is r=>⟨f P' cs is r,fun q=>absurd q h4⟩
    have hkp:∀ {W W2:World},Only (fun _=>False) w W→Only (fun k=>k=p) W W2→PgA W2 s.p.lsn s.p.high s.pB s.pa s.p.items:=fun ho ho2=>(hs.pgA.more ho).kept ho2 (fun q e=>hpB q (by rw [e]; exact h.zp))
    rcases hst with ⟨h1,hth,h4,h5⟩ | h1 | ⟨h1,e,es,h2,h3,h4⟩ | h1 | h1
    · obtain ⟨nx,th,er,htv,hw⟩:=way_all s.p.lsn s.p.kind s.p.level s.p.right P.lv s.p.high s.pB s.pc s.pa s.p.items P.te w hs.pgA
      obtain ⟨L,m,er2,hL,hh⟩:=hits_any s.p.lsn s.p.kind s.p.level s.p.right s.p.high s.pB s.pc s.pa s.p.items w hs.pgA P.key P.blw
      have hBs:EB P.sn:=⟨hB.own,hB.key,hB.few,hB.n⟩
      have hdn:∀ (R:Pn→List Value→Bool→Prop),(∀ P' cs is,R P' cs is→EndI P')→∀ P' cs is,DnR P nx th er R P' cs is→EndI P':=fun R hR P' cs is r=>by
        rcases r with ⟨_,_,r⟩ | ⟨_,r1,r2,rfl⟩
        · exact hR _ _ _ r
        · by_cases hq:er=0∧P.seen+1 < 4096
          · rw [if_pos hq]
            exact .inr ⟨⟨hB.own,hB.key,hB.few,hB.n⟩,.inr (.inr ⟨rfl,.inl ⟨rfl,hth,by show 0≤P.seen+1; omega,by show P.seen+1≤4095; omega⟩⟩)⟩
          · rw [if_neg hq]
            exact flB_E (P:=P.sn) hk 60
      refine page_down w Z p P h (vvO s.V s.q) (pvS s) s.fa s.fr.length s.fc hk h1 _ (fun W hP ho=>?_)
      have hw2:∀ W2,Only (fun k=>k=p) W W2→Calls Tryz.prog 28 #[.agg (pvS s).ar,.int .i64 P.lv,.agg #[.string P.te.key,.int .i64 P.te.page,.int .i64 P.te.slot]] W2 fun x w'=>x=.returned (.tuple #[.int .i64 nx,.bool th,.int .i64 er])∧Only (fun _=>False) W2 w':=fun W2 ho2=>hw W2 (hkp ho ho2)
      rcases hth with hth2 | hth2
      · refine (downL_any W Z p P hP (vvO s.V s.q) (pvS s) s.fa s.fr.length s.fc hth2 (by omega) nx th er (fun P' _ _=>EndI P') hw2 (fun _ _ W2 hP2 ho2=>?_)).mono (fun e w' q=>q.mono (fit (hdn _ (fun _ _ _ r=>r))))
        refine (lookThrough_any W2 Z p P.sn hP2 hB.own (vvO s.V s.q) (pvS s) s.fa s.fr.length s.fc hB.key L m er2 hL (fun W3 ho3=>hh W3 ((hkp ho ho2).more ho3))).mono (fun e w' q=>q.mono (fun P' cs is r=>?_))
        obtain ⟨r1,r2,A,C,r3,rfl⟩:=r
        exact thr_E (P:=P.sn) hBs hk r3 hL
      · refine (downI_any W Z p P hP (vvO s.V s.q) (pvS s) s.fa s.fr.length s.fc hth2 (by omega) nx th er (fun P' _ _=>EndI P') hw2 (fun _ ht W2 hP2 ho2=>?_)).mono (fun e w' q=>q.mono (fit (hdn _ (fun _ _ _ r=>r))))
        have hlv:=htv ht
        have hs2:∀ W3,Only (fun _=>False) W2 W3→Strs W3 s.pB s.pa s.p.items:=fun W3 ho3=>((hkp ho ho2).more ho3).strs
        have hz2:∀ W3,Only (fun _=>False) W2 W3→Nz W3 s.fB s.fa s.fr:=fun W3 ho3=>((hs.fr.kept ho (fun _ e=>e)).kept ho2 (fun q e=>hfB q (by rw [e]; exact h.zp))).kept ho3 (fun _ e=>e)
        refine (item_step W2 Z p P.sn hP2 (by show 0≤P.lv∧P.lv≤1000; omega) (vvO s.V s.q) (pvS s) s.fa s.fr.length s.fc (fun W3 ho3=>(enter_page W3 s.p.lsn s.p.kind s.p.level s.p.right P.sn.wp s.p.high P.sn.item s.pB s.pc s.pa s.p.items s.fr s.fB s.fc s.fa (hs2 W3 ho3) hs.fit hs.pb.few hs.pb.high hs.pb.lsn.2 (hz2 W3 ho3) hs.fc.1 hs.fc.2).mono (fun x w' q=>q.fct))).mono (fun e w' q=>q.mono (fun P' cs is r=>?_))
        rcases r with ⟨_,_,rfl | ⟨c,rfl⟩⟩ | ⟨_,rfl | ⟨e2,q2,_,rfl⟩⟩
        · exact fin_E hBs
        · exact flB_E (P:=P.sn) hk c
        · exact fin_E hBs
        · unfold Pn.tel
          rw [if_pos rfl]
          exact ent_E hBs _ _ _
    · obtain ⟨L,m,er2,hL,hh⟩:=hits_any s.p.lsn s.p.kind s.p.level s.p.right s.p.high s.pB s.pc s.pa s.p.items w hs.pgA P.key P.blw
      refine page_thr w Z p P h (vvO s.V s.q) (pvS s) s.fa s.fr.length s.fc hk h1 _ (fun W hP ho=>?_)
      refine (lookThrough_any W Z p P hP hB.own (vvO s.V s.q) (pvS s) s.fa s.fr.length s.fc hB.key L m er2 hL (fun W3 ho3=>hh W3 (hs.pgA.more (o2 ho ho3)))).mono (fun e w' q=>q.mono (fit (fun P' cs is r=>?_)))
      obtain ⟨r1,r2,A,C,r3,rfl⟩:=r
      exact thr_E hB hk r3 hL
    · refine (pg_at w Z p P h hk h1 hB.own (by have:=hB.few; omega) e es h2 h3 h4 s.V s.q hs.sn hout s.p.lsn s.p.kind s.p.level s.p.right s.p.high s.pB s.pc s.pa s.p.items hs.strs hpB s.fa s.fr.length s.fc).mono (fun e' w' q=>q.mono (fit (fun P' cs is r=>?_)))
      obtain ⟨r1,r2,ra,rc,rfl⟩:=r
      exact lat_E hB hk h2 h3 h4 _ _ _ _ _
    · obtain ⟨R,c,hM⟩:=mark_all w s.p.lsn s.p.kind s.p.level s.p.right s.p.high s.pB s.pc s.pa s.p.items P.wp P.old.slot P.own hs.strs hs.fit hs.pb.high hB.own
      refine page_mark w Z p P h (vvO s.V s.q) (pvS s) s.fa s.fr.length s.fc hk h1 _ (fun W hP ho=>?_)
      refine (mark_step W Z p P hP hB.own (vvO s.V s.q) (pvS s) s.fa s.fr.length s.fc R c (fun W2 ho2=>hM W2 (o2 ho ho2))).mono (fun e w' q=>q.mono (fit (fun P' cs is r=>?_)))
      split at r
      · rw [r.1]; exact gon_E hB
      · rw [r.1]; exact flB_E hk c
    · have hIn:=fun (W:World) (ho:Only (fun _=>False) w W)=>insert_any W s.p.lsn s.p.kind s.p.level s.p.right s.p.high s.pB s.pc s.pa s.p.items P.wp P.tu (hs.strs.more ho) hs.fit hs.pb.high hB.own (by show -9223372036854775808≤(0:Int)∧(0:Int) < 9223372036854775808; decide)
      obtain ⟨R,hR⟩:=exq ((if hinsE s.p.kind s.p.high s.p.items P.tu=0 then insR s.p.items P.wp P.tu else Hr.none))
      obtain ⟨c,hc⟩:=exq (hinsE s.p.kind s.p.high s.p.items P.tu)
      rw [hR,hc] at hIn
      refine page_lay w Z p P h (vvO s.V s.q) (pvS s) s.fa s.fr.length s.fc hk h1 _ (fun W hP ho=>?_)
      refine (lay_step W Z p P hP hB.own (vvO s.V s.q) (pvS s) s.fa s.fr.length s.fc R c (fun W2 ho2=>hIn W2 (o2 ho ho2))).mono (fun e w' q=>q.mono (fit (fun P' cs is r=>?_)))
      unfold LayR at r
      split at r
      · rw [r.1]; exact ent_E hB _ _ _
      · rw [r.2.2]
        split
        · exact wsp_E hB
        · exact flB_E hk 60
def TlR (w:World) (Z:Nat→Prop) (p:Nat) (P:Pn) (e:Ending) (w':World):Prop :=
  ∃ Z' P' is,e=.returned (.bool is)∧(∀ b,b < w.heap.size→Z' b→Z b)∧Pm w' Z' p P'∧Only Z w w'∧EndI P'∧(P.wk=4→is=false∧P'=P)
theorem ShO.moreF {w W:World} {s:Sh} (h:ShO w s) (ho:Only (fun _=>False) w W):ShO W s:=h.kept ho (fun _ e=>e.elim)
theorem lck_4 {P:Pn} (g:Bool) (e:Int) (h:P.wk=4):P.lck g e=P:=by
  unfold Pn.lck
  rw [if_neg (by rw [h]; decide)]
theorem spc_4 {P:Pn} (n:Int) (h:P.wk=4):P.spc n=P:=by
  unfold Pn.spc
  rw [if_neg (by rw [h]; decide)]
theorem fl_4 {P:Pn} (e:Int) (h:P.wk=4):P.fl e=P:=by
  unfold Pn.fl
  rw [if_pos h]
set_option maxHeartbeats 3200000 in
theorem tell_law (w:World) (Z:Nat→Prop) (p:Nat) (P:Pn) (h:Pm w Z p P) (hI:EndI P) (s:Sh) (n:Nat) (hs:ShO w s) (hl:ShL n s) (hz:∀ b,Z b→n≤b) :
    Calls Tryz.prog 14 #[.pointer (some ⟨p,0,none⟩),.agg s.cl.toArray] w (TlR w Z p P):=by
  have HO:=hide (onlyA w (.cells s.cl.toArray 44))
  have HB:=hide (Cb.new w s.cl 44)
  obtain ⟨W0,hW0⟩:=exq (w.alloc (.cells s.cl.toArray 44))
  rw [hW0] at HO HB
  have HP:=hide (h.more HO.out)
  have HZW:=hide h.zlt
  have HZP:Hid (Z p):=h.zp
  have HI:=hide hI
  have HPG:=hide (page_end W0 Z p P HP.out hI s n (hs.moreF HO.out) hl hz)
  have HLK:=hide (Lock_any W0 Z p P HP.out s.got s.e)
  have HSP:=hide (Space_any W0 Z p P HP.out s.n)
  have HFL:=hide (Fail_any W0 Z p P HP.out s.e)
  have HW0:Hid (w.alloc (.cells s.cl.toArray 44)=W0):=hW0
  clear h hI hs hl hz hW0
  unfold Pv.ar Vv.ar at *
  unfold Sh.cl at *
  by_cases h0:s.ask=0
  · have hb0:(s.ask == 0)=true:=by simp [h0]
    clear h0 HLK HSP HFL
    go_enter Tryz.func14,Tryz.ntmps14
    go_upto_region 1 with fail
    rw [HW0.out]
    clear HW0
    have c0:=HB.out.c 0 _ rfl
    have c1:=HB.out.c 1 _ rfl
    have c2:=HB.out.c 2 _ rfl
    have c3:=HB.out.c 3 _ rfl
    have c4:=HB.out.c 4 _ rfl
    have c5:=HB.out.c 5 _ rfl
    have c6:=HB.out.c 6 _ rfl
    have c7:=HB.out.c 7 _ rfl
    have c8:=HB.out.c 8 _ rfl
    have c9:=HB.out.c 9 _ rfl
    have c10:=HB.out.c 10 _ rfl
    have c11:=HB.out.c 11 _ rfl
    have c12:=HB.out.c 12 _ rfl
    have c13:=HB.out.c 13 _ rfl
    have c14:=HB.out.c 14 _ rfl
    have c15:=HB.out.c 15 _ rfl
    have c16:=HB.out.c 16 _ rfl
    have c17:=HB.out.c 17 _ rfl
    have c18:=HB.out.c 18 _ rfl
    have c19:=HB.out.c 19 _ rfl
    have c20:=HB.out.c 20 _ rfl
    have c21:=HB.out.c 21 _ rfl
    go_wp2_with fail
    refine HPG.out.mono ?_
    rintro x w2 ⟨Z2,P2,cs,is,⟨rfl,hl2,ha2⟩,hz2,hp2,ho2,he2,hw2⟩
    have HP2:=hide hp2
    have HO2:=hide ho2
    have HZ2:=hide hz2
    have HE2:=hide he2
    have HW2:=hide hw2
    have HL2:=hide hl2
    have HA2:=hide ha2
    have hes:(Value.agg cs.toArray)=.agg cs.toArray:=rfl
    clear hp2 ho2 hz2 he2 hw2 hl2 ha2 hes HPG
    clear c0 c1 c2 c3 c4 c5 c6 c7 c8 c9 c10 c11 c12 c13 c14 c15 c16 c17 c18 c19 c20 c21
    have HEB:=hide (Cb.new w2 Hr.none.cl 50)
    have HEO:=hide (onlyA w2 (.cells Hr.none.cells 50))
    go_upto_region 4 with (refine wpList_put_cb rfl 50 (.tmp 5) (.tmp 20) (by rfl) w2.heap.size (by rfl) Hr.none.cl cs (by rw [HL2.out]; rfl) (by rw [HL2.out]; exact Tryz.sizeRecF) HA2.out (by rfl) HEB.out ?_; intro W3 HW3; go_frame)
    have HX3:Hid (Only (fun _=>False) w2 W3):=HEO.out.trans HW3.out.2 (fun i hi e=>by have q:i=w2.heap.size:=e; omega)
    have HP3:=hide (HP2.out.more HX3.out)
    go_wp2_with fail
    go_ret
    exact ⟨Z2,P2,is,rfl,fun b hb q=>HZ2.out b (Nat.lt_of_lt_of_le hb HO.out.size) q,HP3.out,((HO.out.mono (fun _ _ e=>e.elim)).trans HO2.out (fun _ _ e=>e)).trans HX3.out (fun _ _ e=>e.elim),HE2.out,HW2.out⟩
  · have hb0:(s.ask == 0)=false:=by simpa using h0
    clear h0 HPG
    by_cases h1:s.ask=1
    · have hb1:(s.ask == 1)=true:=by simp [h1]
      clear h1 HSP HFL
      go_enter Tryz.func14,Tryz.ntmps14
      go_upto_region 1 with fail
      rw [HW0.out]
      clear HW0
      have c0:=HB.out.c 0 _ rfl
      have c1:=HB.out.c 1 _ rfl
      have c2:=HB.out.c 2 _ rfl
      have c3:=HB.out.c 3 _ rfl
      have c4:=HB.out.c 4 _ rfl
      have c5:=HB.out.c 5 _ rfl
      have c6:=HB.out.c 6 _ rfl
      have c7:=HB.out.c 7 _ rfl
      have c8:=HB.out.c 8 _ rfl
      have c9:=HB.out.c 9 _ rfl
      have c10:=HB.out.c 10 _ rfl
      have c11:=HB.out.c 11 _ rfl
      have c12:=HB.out.c 12 _ rfl
      have c13:=HB.out.c 13 _ rfl
      have c14:=HB.out.c 14 _ rfl
      have c15:=HB.out.c 15 _ rfl
      have c16:=HB.out.c 16 _ rfl
      have c17:=HB.out.c 17 _ rfl
      have c18:=HB.out.c 18 _ rfl
      have c19:=HB.out.c 19 _ rfl
      have c20:=HB.out.c 20 _ rfl
      have c21:=HB.out.c 21 _ rfl
      go_wp2_with fail
      refine HLK.out.mono ?_
      rintro x w2 ⟨rfl,hp2,ho2⟩
      have HP2:=hide hp2
      have HO2:=hide ho2
      clear hp2 ho2 HLK
      clear c0 c1 c2 c3 c4 c5 c6 c7 c8 c9 c10 c11 c12 c13 c14 c15 c16 c17 c18 c19 c20 c21
      go_wp2_with fail
      go_ret
      exact ⟨Z,_,false,rfl,fun _ _ q=>q,HP2.out,(HO.out.mono (fun _ _ e=>e.elim)).trans (HO2.out.mono (fun k _ e=>by rw [e]; exact HZP.out)) (fun _ _ e=>e),lck_E HI.out s.got s.e,fun q=>⟨rfl,lck_4 s.got s.e q⟩⟩
    · have hb1:(s.ask == 1)=false:=by simpa using h1
      clear h1 HLK
      by_cases h2:s.ask=2
      · have hb2:(s.ask == 2)=true:=by simp [h2]
        clear h2 HFL
        go_enter Tryz.func14,Tryz.ntmps14
        go_upto_region 1 with fail
        rw [HW0.out]
        clear HW0
        have c0:=HB.out.c 0 _ rfl
        have c1:=HB.out.c 1 _ rfl
        have c2:=HB.out.c 2 _ rfl
        have c3:=HB.out.c 3 _ rfl
        have c4:=HB.out.c 4 _ rfl
        have c5:=HB.out.c 5 _ rfl
        have c6:=HB.out.c 6 _ rfl
        have c7:=HB.out.c 7 _ rfl
        have c8:=HB.out.c 8 _ rfl
        have c9:=HB.out.c 9 _ rfl
        have c10:=HB.out.c 10 _ rfl
        have c11:=HB.out.c 11 _ rfl
        have c12:=HB.out.c 12 _ rfl
        have c13:=HB.out.c 13 _ rfl
        have c14:=HB.out.c 14 _ rfl
        have c15:=HB.out.c 15 _ rfl
        have c16:=HB.out.c 16 _ rfl
        have c17:=HB.out.c 17 _ rfl
        have c18:=HB.out.c 18 _ rfl
        have c19:=HB.out.c 19 _ rfl
        have c20:=HB.out.c 20 _ rfl
        have c21:=HB.out.c 21 _ rfl
        go_wp2_with fail
        refine HSP.out.mono ?_
        rintro x w2 ⟨rfl,hp2,ho2⟩
        have HP2:=hide hp2
        have HO2:=hide ho2
        clear hp2 ho2 HSP
        clear c0 c1 c2 c3 c4 c5 c6 c7 c8 c9 c10 c11 c12 c13 c14 c15 c16 c17 c18 c19 c20 c21
        go_wp2_with fail
        go_ret
        exact ⟨Z,_,false,rfl,fun _ _ q=>q,HP2.out,(HO.out.mono (fun _ _ e=>e.elim)).trans (HO2.out.mono (fun k _ e=>by rw [e]; exact HZP.out)) (fun _ _ e=>e),spc_E HI.out s.n,fun q=>⟨rfl,spc_4 s.n q⟩⟩
      · have hb2:(s.ask == 2)=false:=by simpa using h2
        clear h2 HSP
        by_cases h3:s.ask=3
        · have hb3:(s.ask == 3)=true:=by simp [h3]
          clear h3
          go_enter Tryz.func14,Tryz.ntmps14
          go_upto_region 1 with fail
          rw [HW0.out]
          clear HW0
          have c0:=HB.out.c 0 _ rfl
          have c1:=HB.out.c 1 _ rfl
          have c2:=HB.out.c 2 _ rfl
          have c3:=HB.out.c 3 _ rfl
          have c4:=HB.out.c 4 _ rfl
          have c5:=HB.out.c 5 _ rfl
          have c6:=HB.out.c 6 _ rfl
          have c7:=HB.out.c 7 _ rfl
          have c8:=HB.out.c 8 _ rfl
          have c9:=HB.out.c 9 _ rfl
          have c10:=HB.out.c 10 _ rfl
          have c11:=HB.out.c 11 _ rfl
          have c12:=HB.out.c 12 _ rfl
          have c13:=HB.out.c 13 _ rfl
          have c14:=HB.out.c 14 _ rfl
          have c15:=HB.out.c 15 _ rfl
          have c16:=HB.out.c 16 _ rfl
          have c17:=HB.out.c 17 _ rfl
          have c18:=HB.out.c 18 _ rfl
          have c19:=HB.out.c 19 _ rfl
          have c20:=HB.out.c 20 _ rfl
          have c21:=HB.out.c 21 _ rfl
          go_wp2_with fail
          refine HFL.out.mono ?_
          rintro x w2 ⟨rfl,hp2,ho2⟩
          have HP2:=hide hp2
          have HO2:=hide ho2
          clear hp2 ho2 HFL
          clear c0 c1 c2 c3 c4 c5 c6 c7 c8 c9 c10 c11 c12 c13 c14 c15 c16 c17 c18 c19 c20 c21
          go_wp2_with fail
          go_ret
          exact ⟨Z,_,false,rfl,fun _ _ q=>q,HP2.out,(HO.out.mono (fun _ _ e=>e.elim)).trans (HO2.out.mono (fun k _ e=>by rw [e]; exact HZP.out)) (fun _ _ e=>e),fl_E HI.out s.e,fun q=>⟨rfl,fl_4 s.e q⟩⟩
        · have hb3:(s.ask == 3)=false:=by simpa using h3
          clear h3 HFL
          go_enter Tryz.func14,Tryz.ntmps14
          go_upto_region 1 with fail
          rw [HW0.out]
          clear HW0
          have c0:=HB.out.c 0 _ rfl
          have c1:=HB.out.c 1 _ rfl
          have c2:=HB.out.c 2 _ rfl
          have c3:=HB.out.c 3 _ rfl
          have c4:=HB.out.c 4 _ rfl
          have c5:=HB.out.c 5 _ rfl
          have c6:=HB.out.c 6 _ rfl
          have c7:=HB.out.c 7 _ rfl
          have c8:=HB.out.c 8 _ rfl
          have c9:=HB.out.c 9 _ rfl
          have c10:=HB.out.c 10 _ rfl
          have c11:=HB.out.c 11 _ rfl
          have c12:=HB.out.c 12 _ rfl
          have c13:=HB.out.c 13 _ rfl
          have c14:=HB.out.c 14 _ rfl
          have c15:=HB.out.c 15 _ rfl
          have c16:=HB.out.c 16 _ rfl
          have c17:=HB.out.c 17 _ rfl
          have c18:=HB.out.c 18 _ rfl
          have c19:=HB.out.c 19 _ rfl
          have c20:=HB.out.c 20 _ rfl
          have c21:=HB.out.c 21 _ rfl
          go_wp2_with fail
          go_ret
          exact ⟨Z,P,false,rfl,fun _ _ q=>q,HP.out,HO.out.mono (fun _ _ e=>e.elim),HI.out,fun _=>⟨rfl,rfl⟩⟩
end Go.Proofs.YtajjakljheafjaaGreat
