/- Parts. -/
import Derived.Test.YtajjakljheafjaaGreatK44
import Derived.ProofKit
import Derived.OpenShut
import Derived.ShutString
import Derived.SizedLaws
import Derived.Deep.Strs
import Derived.Deep.Draws
set_option maxRecDepth 100000
namespace Go.Proofs.YtajjakljheafjaaGreat
open Go.ChangeShapes Go.WideShapes Go.ChangeAt Go.RowKit Go.Deep
theorem Tryz.laidOut:laidOutB Tryz.prog=true:=by kernel_rfl
theorem Tryz.cellsInt:Tryz.prog.cellsOf 3=1:=by kernel_rfl
theorem Tryz.cellsBool:Tryz.prog.cellsOf 4=1:=by kernel_rfl
theorem Tryz.cellsInts:Tryz.prog.cellsOf 38=1:=by kernel_rfl
theorem Tryz.cellsStr:Tryz.prog.cellsOf 9=1:=by kernel_rfl
theorem Tryz.cellsStrs:Tryz.prog.cellsOf 35=1:=by kernel_rfl
theorem Tryz.bytesStr:Tryz.prog.bytesOf 9=16:=by kernel_rfl
theorem cell_spot {w:World} {a:Addr} {v:Value} (h:w.cell? a=some v):a=⟨a.block,a.off,none⟩:=by
  obtain ⟨b,o,s⟩:=a
  cases s with
  | none=>rfl
  | some q=>
    unfold World.cell? at h
    split at h
    · simp at h
    · simp at h
theorem weightsAll_mem {H:Type} {P:Program} {e:TypeId} {d:DataW H} {l:List (DataW H)} {n:Nat} (hd:d ∈ l) (hn:n ∈ d.weights P e):n ∈ DataW.weightsAll P e l:=by
  induction l with
  | nil=>cases hd
  | cons x t ih=>
    rw [DataW.weightsAll,List.mem_append]
    rcases List.mem_cons.1 hd with rfl | h
    · exact .inl hn
    · exact .inr (ih h)
theorem strs_of_trod {H:Type} {enc:TypeId × Value→H} {W:World} {c:Value} {x:DataW H × List MemPlace} {n:Nat} (h:DataW.trod enc Tryz.prog W 0 (fun _=>true) true n 35 [c]=some x) (hw:∀ m ∈ x.1.weights Tryz.prog 35,m≤reachBytes) :
    ∃ (B:Nat) (ao:Option Addr) (cp:Nat) (l:List ByteArray),c=.slice ao l.length cp∧Strs W B ao l∧Fit ao l.length cp∧l.length≤8796093021952:=by
  rcases open_strs Tryz.underlying35 Tryz.underlying9 Tryz.cellsStr h with ⟨hcs,_⟩ | ⟨ad,len,cap,m,Sx,hcs,_,hl,hm,hmm,hx,hc⟩
  · simp at hcs
    subst hcs
    exact ⟨0,none,0,[],rfl,Strs.nil _ _ _,⟨fun _=>rfl,by simp,(by unfold maxLen; omega)⟩,by simp⟩
  · simp at hcs hmm
    subst hcs
    subst hmm
    rw [hx] at hw
    simp only [DataW.weights,Tryz.underlying35,Tryz.bytesStr] at hw
    have hwb:=hw ((((List.range len).map fun i=>DataW.lit (H:=H) (.string (Sx i).data.toList)).length+((List.range (m - len)).map fun j=>DataW.lit (H:=H) (.string (Sx (len+j)).data.toList)).length) * 16) (by simp)
    simp only [List.length_map,List.length_range] at hwb
    have hlen:((List.range len).map Sx).length=len:=by simp
    have hwr:reachBytes=140737488351232:=by decide
    refine ⟨ad.block,some ad,m,(List.range len).map Sx,by rw [hlen],⟨fun h0=>?_,fun h0=>?_,by rw [hlen]; omega,fun s hs=>?_⟩,⟨(fun h=>by cases h),(by rw [hlen]; exact hl),hm⟩,by rw [hlen]; omega⟩
    · rw [hlen] at h0
      have c0:=(hc 0 (by omega)).1
      have e0:ad.add 0=ad:=by unfold Addr.add; split <;> simp_all
      rw [e0] at c0
      have ha:=cell_spot c0
      refine ⟨ad.off,by rw [← ha],fun j hj=>?_⟩
      rw [hlen] at hj
      have cj:=(hc j (by omega)).1
      rw [ha,add_at] at cj
      rw [cj]
      simp
    · rw [hlen] at h0
      have c0:=(hc 0 (by omega)).1
      have e0:ad.add 0=ad:=by unfold Addr.add; split <;> simp_all
      rw [e0] at c0
      exact World.block_lt_of_cell? W _ c0
    · obtain ⟨i,hi,rfl⟩:=List.mem_map.1 hs
      have hmem:(DataW.lit (H:=H) (.string (Sx i).data.toList)) ∈ (List.range len).map fun i=>DataW.lit (H:=H) (.string (Sx i).data.toList):=List.mem_map.2 ⟨i,hi,rfl⟩
      have:=hw (Sx i).data.toList.length (by
        refine List.mem_cons_of_mem _ (List.mem_append.2 (.inl (weightsAll_mem hmem ?_)))
        simp [DataW.weights])
      rw [show (Sx i).data.toList.length=(Sx i).size from bl_len _] at this
      omega
theorem sized_mem {H:Type} {ts:List TypeId} {ds:List (DataW H)} (h:(DataW.weightsEach Tryz.prog ts ds).all (·≤reachBytes)=true) {j:Nat} {t:TypeId} {d:DataW H} (ht:ts[j]?=some t) (hd:ds[j]?=some d):∀ n ∈ d.weights Tryz.prog t,n≤reachBytes:=by
  intro n hn
  have:=List.all_eq_true.1 h _ (DataW.weights_mem_each ht hd n hn)
  simpa using this
theorem sadd_nought (a:Addr):a.add 0=a:=by simp [Addr.add]
theorem Tryz.cellsView:Tryz.prog.cellsOf 42=11:=by kernel_rfl
theorem Tryz.cellsSnapshot:Tryz.prog.cellsOf 40=2:=by kernel_rfl
theorem sadd_at (b o j:Nat):(⟨b,o,none⟩:Addr).add j=⟨b,o+j,none⟩:=by simp [Addr.add]
theorem add0 (a:Addr):a.add 0=a:=by unfold Addr.add; simp
theorem slice_reach {H:Type} {enc:TypeId × Value→H} {W:World} {t e:TypeId} {c:Value} {x:DataW H × List MemPlace} {n:Nat} (ht:Tryz.prog.underlying t=some (.slice e)) (h:DataW.trod enc Tryz.prog W 0 (fun _=>true) true n t [c]=some x) (hw:∀ m ∈ x.1.weights Tryz.prog t,m≤reachBytes) (hb:8≤Tryz.prog.bytesOf e) :
    c=.slice none 0 0∨∃ (a:Addr) (len cap m:Nat) (D:Nat→DataW H) (Pl:Nat→List MemPlace),c=.slice (some a) len cap∧len≤cap∧cap≤maxLen∧cap≤17592186043904 ∧
      (∀ i,i < cap→∃ cs',W.cells? 0 (a.add (i * Tryz.prog.cellsOf e)) (Tryz.prog.cellsOf e)=some cs'∧DataW.trod enc Tryz.prog W 0 (fun _=>true) true m e cs'=some (D i,Pl i)) ∧
      (∀ i,i < len→∀ k ∈ (D i).weights Tryz.prog e,k≤reachBytes):=by
  rcases open_slice ht h with ⟨hcs,hx⟩ | ⟨a',len',cap',m,n',D,Pl,hcs,hb',hl,hm,hmm,hx,hit⟩
  · simp at hcs
    exact .inl hcs
  · simp at hcs hmm
    subst hmm
    have hwr:reachBytes=140737488351232:=by decide
    rw [hx] at hw
    simp only [DataW.weights,ht] at hw
    have hwb:=hw ((((List.range len').map D).length+((List.range (m - len')).map fun j=>D (len'+j)).length) * Tryz.prog.bytesOf e) (by simp)
    simp only [List.length_map,List.length_range] at hwb
    have h8:(len'+(m - len')) * 8≤(len'+(m - len')) * Tryz.prog.bytesOf e:=Nat.mul_le_mul_left _ hb
    refine .inr ⟨a',len',m,n',D,Pl,hcs,hl,hm,by omega,hit,fun i hi k hk=>?_⟩
    refine hw k (List.mem_cons_of_mem _ (List.mem_append.2 (.inl (weightsAll_mem (d:=D i) (List.mem_map.2 ⟨i,List.mem_range.2 hi,rfl⟩) hk))))
theorem ns_of_trod {H:Type} {enc:TypeId × Value→H} {W:World} {c:Value} {x:DataW H × List MemPlace} {n:Nat} (h:DataW.trod enc Tryz.prog W 0 (fun _=>true) true n 38 [c]=some x) :
    ∃ (B:Nat) (ao:Option Addr) (cp:Nat) (l:List Int),c=.slice ao l.length cp∧Nz W B ao l∧(ao=none→cp=0):=by
  rcases open_slice Tryz.underlying38 h with ⟨hcs,hx⟩ | ⟨a',len,cap,m,n,D,Pl,hcs,hb,hl,hm,hmm,hx,hit⟩
  · simp at hcs
    subst hcs
    exact ⟨0,none,0,[],rfl,Nz.nil _ _ _,fun _=>rfl⟩
  · simp at hcs
    subst hcs
    have hlm:len≤m:=by rw [hmm]; split <;> omega
    have one:∀ i,i < len→∃ z:Int,W.cell? (a'.add i)=some (.int .i64 z)∧I64 z:=fun i hi=>by
      obtain ⟨cs',h1,h2⟩:=hit i (by omega)
      rw [Tryz.cellsInt] at h1
      obtain ⟨_,hlen,hcell⟩:=World.cells?_some h1
      match cs',hlen with
      | [v0],_=>
        obtain ⟨z,e0,_,wz⟩:=DataW.trod_int Tryz.underlying3 h2
        simp at e0
        subst e0
        have c0:=hcell 0 (by omega)
        rw [sadd_nought,Nat.mul_one] at c0
        have b0:=bounds_i64 wz
        exact ⟨z,by simpa using c0,b0.1,by omega⟩
    obtain ⟨q,hq⟩:=choose_lt (n:=len) one
    have hlen:((List.range len).map q).length=len:=by simp
    have hmx:maxLen=9223372036854775807:=rfl
    refine ⟨a'.block,some a',cap,(List.range len).map q,by rw [hlen],⟨fun h0=>?_,fun x hx=>?_,fun h0=>?_,by rw [hlen]; omega⟩,fun h=>by cases h⟩
    · rw [hlen] at h0
      have c0:=(hq 0 (by omega)).1
      rw [sadd_nought] at c0
      have ha:=cell_spot c0
      refine ⟨a'.off,by rw [← ha],fun j hj=>?_⟩
      rw [hlen] at hj
      have cj:=(hq j (by omega)).1
      rw [ha,sadd_at] at cj
      rw [cj]
      simp
    · obtain ⟨i,hi,rfl⟩:=List.mem_map.1 hx
      exact (hq i (by simpa using hi)).2
    · rw [hlen] at h0
      have c0:=(hq 0 (by omega)).1
      rw [sadd_nought] at c0
      exact World.block_lt_of_cell? W _ c0
theorem nsF_of_trod {H:Type} {enc:TypeId × Value→H} {W:World} {c:Value} {x:DataW H × List MemPlace} {n:Nat} (h:DataW.trod enc Tryz.prog W 0 (fun _=>true) true n 38 [c]=some x) :
    ∃ (B:Nat) (ao:Option Addr) (cp:Nat) (l:List Int),c=.slice ao l.length cp∧Nz W B ao l∧l.length≤cp∧cp≤maxLen:=by
  obtain ⟨B,ao,cp,l,e,hn,h0⟩:=ns_of_trod h
  refine ⟨B,ao,cp,l,e,hn,?_⟩
  rcases open_slice Tryz.underlying38 h with ⟨hcs,hx⟩ | ⟨a',len,cap,m,n,D,Pl,hcs,hb,hl,hm,hmm,hx,hit⟩
  · simp at hcs
    rw [hcs] at e
    injection e with e1 e2 e3
    rw [← e2,← e3]
    exact ⟨Nat.le_refl _,Nat.zero_le _⟩
  · simp at hcs
    rw [hcs] at e
    injection e with e1 e2 e3
    rw [← e2,← e3]
    exact ⟨hl,hm⟩
structure PgF (p:Pg):Prop where
  lsn:I64 p.lsn
  high:p.high.size≤140737488355328
  few:p.items.length≤8796093021952
theorem pgF_of_trod {H:Type} {enc:TypeId × Value→H} {W:World} {c0 c1 c2 c3 c4 c5:Value} {x:DataW H × List MemPlace} {n:Nat} (h:DataW.trod enc Tryz.prog W 0 (fun _=>true) true n 37 [c0,c1,c2,c3,c4,c5]=some x) (hw:∀ m ∈ x.1.weights Tryz.prog 37,m≤reachBytes) :
    ∃ (p:Pg) (B:Nat) (ao:Option Addr) (cp:Nat),c0=.int .i64 p.lsn∧c1=.int .i64 p.kind∧c2=.int .i64 p.level∧c3=.int .i64 p.right∧c4=.string p.high∧c5=.slice ao p.items.length cp∧Strs W B ao p.items∧Fit ao p.items.length cp∧PgF p:=by
  obtain ⟨xs,n',_,hx,_,hlen,hfs⟩:=DataW.trod_struct Tryz.underlying37 h
  match xs,hlen with
  | [y0,y1,y2,y3,y4,y5],_=>
    have g0:=hfs 0 _ rfl
    have g1:=hfs 1 _ rfl
    have g2:=hfs 2 _ rfl
    have g3:=hfs 3 _ rfl
    have g4:=hfs 4 _ rfl
    have g5:=hfs 5 _ rfl
    simp [Tryz.cellsInt,Tryz.cellsStr,Tryz.cellsStrs] at g0 g1 g2 g3 g4 g5
    obtain ⟨a,e0,_,w0⟩:=DataW.trod_int Tryz.underlying3 g0
    obtain ⟨k,e1,_,w1⟩:=DataW.trod_int Tryz.underlying3 g1
    obtain ⟨u,e2,_,w2⟩:=DataW.trod_int Tryz.underlying3 g2
    obtain ⟨r,e3,_,w3⟩:=DataW.trod_int Tryz.underlying3 g3
    obtain ⟨h,e4,f4,_⟩:=DataW.trod_string Tryz.underlying9 g4
    simp at e0 e1 e2 e3 e4
    rw [hx] at hw
    simp only [DataW.weights,Tryz.underlying37] at hw
    have hw4:∀ m ∈ y4.1.weights Tryz.prog 9,m≤reachBytes:=fun m hm=>hw m (DataW.weights_mem_each (j:=4) (t:=9) (d:=y4.1) rfl rfl m hm)
    have hw5:∀ m ∈ y5.1.weights Tryz.prog 35,m≤reachBytes:=fun m hm=>hw m (DataW.weights_mem_each (j:=5) (t:=35) (d:=y5.1) rfl rfl m hm)
    obtain ⟨B,ao,cp,l,e5,hS,hF,hL⟩:=strs_of_trod g5 hw5
    have hwr:reachBytes=140737488351232:=by decide
    have hh:h.size≤140737488355328:=by
      rw [f4] at hw4
      have:=hw4 h.data.toList.length (by simp [DataW.weights])
      rw [show h.data.toList.length=h.size from bl_len _] at this
      omega
    have b0:=bounds_i64 w0
    have b1:=bounds_i64 w1
    have b2:=bounds_i64 w2
    have b3:=bounds_i64 w3
    exact ⟨⟨a,k,u,r,h,l⟩,B,ao,cp,e0,e1,e2,e3,e4,e5,hS,hF,⟨⟨b0.1,by show a < _; omega⟩,hh,hL⟩⟩
theorem view_of_trod {H:Type} {enc:TypeId × Value→H} {W:World} {c0 c1 c2 c3 c4 c5 c6 c7 c8 c9 c10:Value} {x:DataW H × List MemPlace} {n:Nat} (h:DataW.trod enc Tryz.prog W 0 (fun _=>true) true n 42 [c0,c1,c2,c3,c4,c5,c6,c7,c8,c9,c10]=some x) (hw:∀ m ∈ x.1.weights Tryz.prog 42,m≤reachBytes) :
    ∃ (V:Vw) (q:Lo),[c0,c1,c2,c3,c4,c5,c6,c7,c8,c9,c10]=[.int .i64 V.m,.int .i64 V.next,.slice q.aA V.act.length q.cA,.int .i64 V.own,.slice q.aR V.run.length q.cR,.int .i64 V.pg.lsn,.int .i64 V.pg.kind,.int .i64 V.pg.level,.int .i64 V.pg.right,.string V.pg.high,.slice q.aP V.pg.items.length q.cP]∧Sn W V q:=by
  obtain ⟨xs,n,_,hx,_,hlen,hfs⟩:=DataW.trod_struct Tryz.underlying42 h
  match xs,hlen with
  | [y0,y1,y2,y3,y4],_=>
    have g0:=hfs 0 _ rfl
    have g1:=hfs 1 _ rfl
    have g2:=hfs 2 _ rfl
    have g3:=hfs 3 _ rfl
    have g4:=hfs 4 _ rfl
    simp [Tryz.cellsInt,Tryz.cellsInts,Tryz.cellsSnapshot,Tryz.cellsPage] at g0 g1 g2 g3 g4
    obtain ⟨a,e0,_,w0⟩:=DataW.trod_int Tryz.underlying3 g0
    obtain ⟨z0,z1,n2,_,_,k0,k1⟩:=trod_struct2 Tryz.underlying40 g1
    simp [Tryz.cellsInt,Tryz.cellsInts] at k0 k1
    obtain ⟨b,e1,_,w1⟩:=DataW.trod_int Tryz.underlying3 k0
    obtain ⟨BA,aA,cA,lA,e2,hA,_⟩:=ns_of_trod k1
    obtain ⟨c,e3,_,w3⟩:=DataW.trod_int Tryz.underlying3 g2
    obtain ⟨BR,aR,cR,lR,e4,hR,_⟩:=ns_of_trod g3
    rw [hx] at hw
    simp only [DataW.weights,Tryz.underlying42] at hw
    have hw4:∀ m ∈ y4.1.weights Tryz.prog 37,m≤reachBytes:=fun m hm=>hw m (DataW.weights_mem_each (j:=4) (t:=37) (d:=y4.1) rfl rfl m hm)
    obtain ⟨p,BP,aP,cP,f0,f1,f2,f3,f4,f5,hP,hF,_⟩:=pgF_of_trod g4 hw4
    simp at e0 e1 e3
    subst e0 e1 e2 e3 e4 f0 f1 f2 f3 f4 f5
    have b0:=bounds_i64 w0
    have b1:=bounds_i64 w1
    have b3:=bounds_i64 w3
    exact ⟨⟨a,b,lA,c,lR,p⟩,⟨BA,aA,cA,BR,aR,cR,BP,aP,cP⟩,rfl,⟨hA,hR,hP,hF,⟨b0.1,by show a < _; omega⟩,⟨b1.1,by show b < _; omega⟩,⟨b3.1,by show c < _; omega⟩⟩⟩
theorem Tryz.cellsShow:Tryz.prog.cellsOf 44=22:=by kernel_rfl
theorem Tryz.cellsErrno:Tryz.prog.cellsOf 28=1:=by kernel_rfl
structure Sh where
  ask:Int
  p:Pg
  pB:Nat
  pa:Option Addr
  pc:Nat
  V:Vw
  q:Lo
  fr:List Int
  fB:Nat
  fa:Option Addr
  fc:Nat
  got:Bool
  e:Int
  n:Int
abbrev Sh.cl (s:Sh):List Value:=[.int .i64 s.ask,.int .i64 s.p.lsn,.int .i64 s.p.kind,.int .i64 s.p.level,.int .i64 s.p.right,.string s.p.high,.slice s.pa s.p.items.length s.pc,
  .int .i64 s.V.m,.int .i64 s.V.next,.slice s.q.aA s.V.act.length s.q.cA,.int .i64 s.V.own,.slice s.q.aR s.V.run.length s.q.cR,.int .i64 s.V.pg.lsn,.int .i64 s.V.pg.kind,.int .i64 s.V.pg.level,.int .i64 s.V.pg.right,.string s.V.pg.high,.slice s.q.aP s.V.pg.items.length s.q.cP,
  .slice s.fa s.fr.length s.fc,.bool s.got,.int .i64 s.e,.int .i64 s.n]
structure ShO (w:World) (s:Sh):Prop where
  ask:I64 s.ask
  strs:Strs w s.pB s.pa s.p.items
  fit:Fit s.pa s.p.items.length s.pc
  pb:PgF s.p
  sn:Sn w s.V s.q
  fr:Nz w s.fB s.fa s.fr
  fc:s.fr.length≤s.fc∧s.fc≤maxLen
  e:I64 s.e
  n:I64 s.n
theorem ShO.kept {w w':World} {s:Sh} {S:Nat→Prop} (h:ShO w s) (ho:Only S w w') (hS:∀ b,S b→w.heap.size≤b):ShO w' s :=
  ⟨h.ask,h.strs.kept ho (fun q e=>by have:=hS _ e; have:=h.strs.lt q; omega),h.fit,h.pb,h.sn.kept ho ⟨fun q e=>by have:=hS _ e; have:=h.sn.act.lt q; omega,fun q e=>by have:=hS _ e; have:=h.sn.run.lt q; omega,fun q e=>by have:=hS _ e; have:=h.sn.pg.lt q; omega⟩,h.fr.kept ho (fun q e=>by have:=hS _ e; have:=h.fr.lt q; omega),h.fc,h.e,h.n⟩
structure ShL (n:Nat) (s:Sh):Prop where
  p:0 < s.p.items.length→s.pB < n
  a:0 < s.V.act.length→s.q.bA < n
  r:0 < s.V.run.length→s.q.bR < n
  g:0 < s.V.pg.items.length→s.q.bP < n
  f:0 < s.fr.length→s.fB < n
theorem ShO.low {w:World} {s:Sh} (h:ShO w s):ShL w.heap.size s:=⟨h.strs.lt,h.sn.act.lt,h.sn.run.lt,h.sn.pg.lt,h.fr.lt⟩
set_option maxHeartbeats 800000 in
theorem show_of_trod {H:Type} {enc:TypeId × Value→H} {W:World} {c0 c1 c2 c3 c4 c5 c6 c7 c8 c9 c10 c11 c12 c13 c14 c15 c16 c17 c18 c19 c20 c21:Value} {x:DataW H × List MemPlace} {n:Nat} (h:DataW.trod enc Tryz.prog W 0 (fun _=>true) true n 44 [c0,c1,c2,c3,c4,c5,c6,c7,c8,c9,c10,c11,c12,c13,c14,c15,c16,c17,c18,c19,c20,c21]=some x) (hw:∀ m ∈ x.1.weights Tryz.prog 44,m≤reachBytes) :
    ∃ s:Sh,[c0,c1,c2,c3,c4,c5,c6,c7,c8,c9,c10,c11,c12,c13,c14,c15,c16,c17,c18,c19,c20,c21]=s.cl∧ShO W s:=by
  obtain ⟨xs,n,_,hx,_,hlen,hfs⟩:=DataW.trod_struct Tryz.underlying44 h
  match xs,hlen with
  | [y0,y1,y2,y3,y4,y5,y6],_=>
    have g0:=hfs 0 _ rfl
    have g1:=hfs 1 _ rfl
    have g2:=hfs 2 _ rfl
    have g3:=hfs 3 _ rfl
    have g4:=hfs 4 _ rfl
    have g5:=hfs 5 _ rfl
    have g6:=hfs 6 _ rfl
    simp [Tryz.cellsInt,Tryz.cellsInts,Tryz.cellsView,Tryz.cellsPage,Tryz.cellsBool,Tryz.cellsErrno] at g0 g1 g2 g3 g4 g5 g6
    rw [hx] at hw
    simp only [DataW.weights,Tryz.underlying44] at hw
    have hw1:∀ m ∈ y1.1.weights Tryz.prog 37,m≤reachBytes:=fun m hm=>hw m (DataW.weights_mem_each (j:=1) (t:=37) (d:=y1.1) rfl rfl m hm)
    have hw2:∀ m ∈ y2.1.weights Tryz.prog 42,m≤reachBytes:=fun m hm=>hw m (DataW.weights_mem_each (j:=2) (t:=42) (d:=y2.1) rfl rfl m hm)
    obtain ⟨a,e0,_,w0⟩:=DataW.trod_int Tryz.underlying3 g0
    obtain ⟨p,BP,aP,cP,f0,f1,f2,f3,f4,f5,hP,hF,hPB⟩:=pgF_of_trod g1 hw1
    obtain ⟨V,q,eV,hV⟩:=view_of_trod g2 hw2
    obtain ⟨BF,aF,cF,lF,eF,hFr,hF1,hF2⟩:=nsF_of_trod g3
    obtain ⟨gb,e4,_⟩:=DataW.trod_bool Tryz.underlying4 g4
    obtain ⟨er,e5,_,w5⟩:=DataW.trod_int Tryz.underlying28 g5
    obtain ⟨nn,e6,_,w6⟩:=DataW.trod_int Tryz.underlying3 g6
    simp at e0 e4 e5 e6
    simp only [List.cons.injEq,and_true] at eV
    obtain ⟨v0,v1,v2,v3,v4,v5,v6,v7,v8,v9,v10⟩:=eV
    subst e0 f0 f1 f2 f3 f4 f5 v0 v1 v2 v3 v4 v5 v6 v7 v8 v9 v10 eF e4 e5 e6
    have b0:=bounds_i64 w0
    have b5:=bounds_i64 w5
    have b6:=bounds_i64 w6
    exact ⟨⟨a,p,BP,aP,cP,V,q,lF,BF,aF,cF,gb,er,nn⟩,rfl,⟨⟨b0.1,by show a < _; omega⟩,hP,hF,hPB,hV,hFr,⟨hF1,hF2⟩,⟨b5.1,by show er < _; omega⟩,⟨b6.1,by show nn < _; omega⟩⟩⟩
end Go.Proofs.YtajjakljheafjaaGreat
