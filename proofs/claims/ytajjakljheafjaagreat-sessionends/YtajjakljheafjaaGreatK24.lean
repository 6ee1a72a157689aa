/- Parts. -/
import Derived.Test.YtajjakljheafjaaGreatK23
import Derived.Laws.EntriesVeiled
import Derived.Test.YtajjakljheafjaaGreatK22
import Derived.Laws.IdiomStrings
set_option maxRecDepth 100000
namespace Go.Proofs.YtajjakljheafjaaGreat
open Go.RowKit
structure Pn where
  call:Int
  key:ByteArray
  tok:ByteArray
  value:ByteArray
  n:Int
  own:Int
  wk:Int
  wkey:ByteArray
  ws:Int
  wp:Int
  sh:Option Nat
  te:En
  lv:Int
  seen:Int
  th:Option Nat
  ha:Option Addr
  hits:List En
  hc:Nat
  more:Bool
  right:Int
  old:En
  item:ByteArray
  err:Int
  found:Bool
  val:ByteArray
  ra:Option Addr
  rows:List (ByteArray × ByteArray)
  rc:Nat
def fv (p:Nat):Option Nat→Value
  | none=>.nilFunc
  | some n=>.func (.func n) #[.pointer (some ⟨p,0,none⟩)] #[]
def Pn.cl (P:Pn) (p:Nat):List Value :=
  [.int .u8 P.call,.string P.key,.string P.tok,.string P.value,.int .i64 P.n,.int .i64 P.own,.int .i64 P.wk,.string P.wkey,.int .i64 P.ws,.int .i64 P.wp,fv p P.sh,.string P.te.key,.int .i64 P.te.page,.int .i64 P.te.slot,.int .i64 P.lv,.int .i64 P.seen,fv p P.th,
   .slice P.ha P.hits.length P.hc,.bool P.more,.int .i64 P.right,.string P.old.key,.int .i64 P.old.page,.int .i64 P.old.slot,.string P.item,.int .i64 P.err,.bool P.found,.string P.val,.slice P.ra P.rows.length P.rc]
structure Cb (w:World) (b:Nat) (vs:List Value):Prop where
  c:∀ i v,vs[i]?=some v→w.cell? ⟨b,i,none⟩=some v
  f:∀ i,w.frozen? ⟨b,i,none⟩=false
  lt:b < w.heap.size
theorem Cb.kept {S:Nat→Prop} {w w':World} {b:Nat} {vs:List Value} (h:Cb w b vs) (ho:Only S w w') (hS:¬ S b):Cb w' b vs :=
  ⟨fun i v hv=>(ho.cell (p:=⟨b,i,none⟩) h.lt hS).trans (h.c i v hv),fun i=>(ho.frozen (p:=⟨b,i,none⟩) h.lt hS).trans (h.f i),Nat.lt_of_lt_of_le h.lt ho.size⟩
theorem Cb.more {w w':World} {b:Nat} {vs:List Value} (h:Cb w b vs) (ho:Only (fun _=>False) w w'):Cb w' b vs:=h.kept ho id
theorem Cb.new (w:World) (vs:List Value) (ty:TypeId):Cb (w.alloc (.cells vs.toArray ty)) w.heap.size vs:=by
  refine ⟨fun i v hv=>?_,fun i=>?_,by simp⟩
  · simp only [World.cell?,World.alloc]
    simpa using hv
  · have:(w.alloc (.cells vs.toArray ty)).heap[w.heap.size]?=some (.cells vs.toArray ty (0,0)):=heap_alloc_new w _
    unfold World.frozen?
    simp only
    rw [this]
    simp
theorem Cb.set {w:World} {b:Nat} {vs:List Value} (h:Cb w b vs) (i:Nat) (u:Value):Cb (w.setCell ⟨b,i,none⟩ u) b (vs.set i u):=by
  refine ⟨fun j v hv=>?_,fun j=>by rw [World.frozen?_setCell]; exact h.f j,by simpa [World.setCell] using h.lt⟩
  by_cases e:j=i
  · subst e
    rw [List.getElem?_set] at hv
    simp only [if_true] at hv
    split at hv
    · rename_i hj
      cases hv
      exact World.cell?_setCell_same _ _ _ (h.c j vs[j] (by simp [hj]))
    · cases hv
  · rw [List.getElem?_set_ne (Ne.symm e)] at hv
    exact (World.cell?_setCell_other _ _ _ _ (by intro e2; injection e2; omega)).trans (h.c j v hv)
theorem Cb.rg {w:World} {b:Nat} {vs:List Value} (h:Cb w b vs):Rg w b 0 vs :=
  ⟨fun j v hv=>by rw [Nat.zero_add]; exact h.c j v hv,fun j hj=>by rw [Nat.zero_add]; exact ⟨by rw [h.c j _ (List.getElem?_eq_getElem hj)]; rfl,h.f j⟩,h.lt⟩
theorem Cb.sets {w:World} {b:Nat} {c1 c2 c3:List Value} (h:Cb w b (c1++c2++c3)) (ds:List Value) (hl:ds.length=c2.length):Cb (w.setCells b c1.length ds) b (c1++ds++c3):=by
  have q:=h.rg.put ds hl
  rw [Nat.zero_add] at q
  refine ⟨fun i v hv=>?_,fun i=>by rw [setCells_frozen]; exact h.f i,by rw [setCells_size]; exact h.lt⟩
  have:=q.range i v hv
  rwa [Nat.zero_add] at this
theorem Only.put (w:World) (b i:Nat) (u:Value):Only (fun k=>k=b) w (w.setCell ⟨b,i,none⟩ u):=Only.setCell w ⟨b,i,none⟩ u rfl
theorem Only.puts {b:Nat} {w w1:World} (h:Only (fun k=>k=b) w w1) (i:Nat) (u:Value):Only (fun k=>k=b) w (w1.setCell ⟨b,i,none⟩ u):=h.trans (Only.put w1 b i u) (fun _ _ h=>h)
def Pn.rb (P:Pn):Option Nat:=(Value.slice P.ra P.rows.length P.rc).ownBlock
structure Pm (w:World) (Z:Nat→Prop) (p:Nat) (P:Pn):Prop where
  cb:Cb w p (P.cl p)
  zp:Z p
  zlt:∀ b,Z b→b < w.heap.size
  rows:RowsAt w 0 (.slice P.ra P.rows.length P.rc) P.rows
  rz:∀ k,P.rb=some k→Z k∧k≠p
  hits:∃ B,Els w B P.ha P.hits∧(0 < P.hits.length→Z B∧B≠p∧P.rb≠some B)
theorem Pm.kept {S Z:Nat→Prop} {w w':World} {p:Nat} {P:Pn} (h:Pm w Z p P) (ho:Only S w w') (hS:∀ k,Z k→¬ S k):Pm w' Z p P:=by
  obtain ⟨B,h1,h2⟩:=h.hits
  exact ⟨h.cb.kept ho (hS p h.zp),h.zp,fun b hb=>Nat.lt_of_lt_of_le (h.zlt b hb) ho.size,h.rows.kept ho (fun k hk=>hS k (h.rz k hk).1),h.rz,B,h1.kept ho (fun q=>hS B (h2 q).1),h2⟩
theorem Pm.more {Z:Nat→Prop} {w w':World} {p:Nat} {P:Pn} (h:Pm w Z p P) (ho:Only (fun _=>False) w w'):Pm w' Z p P:=h.kept ho (fun _ _ e=>e)
theorem Pm.late {Z:Nat→Prop} {w w':World} {p b:Nat} {P:Pn} (h:Pm w Z p P) (ho:Only (fun k=>k=b) w w') (hb:¬ Z b):Pm w' Z p P:=h.kept ho (fun k hk e=>hb (by rw [← e]; exact hk))
theorem Pm.mod {Z:Nat→Prop} {w w':World} {p:Nat} {P Q:Pn} (h:Pm w Z p P) (ho:Only (fun k=>k=p) w w') (hc:Cb w' p (Q.cl p))
    (hr:Q.ra=P.ra∧Q.rows=P.rows∧Q.rc=P.rc) (hh:Q.ha=P.ha∧Q.hits=P.hits):Pm w' Z p Q:=by
  obtain ⟨B,h1,h2⟩:=h.hits
  obtain ⟨r1,r2,r3⟩:=hr
  obtain ⟨e1,e2⟩:=hh
  have rb:Q.rb=P.rb:=by unfold Pn.rb; rw [r1,r2,r3]
  refine ⟨hc,h.zp,fun b hb=>Nat.lt_of_lt_of_le (h.zlt b hb) ho.size,?_,?_,B,?_,?_⟩
  · rw [r1,r2,r3]
    exact h.rows.kept ho (fun k hk e=>(h.rz k hk).2 e)
  · rw [rb]; exact h.rz
  · rw [e1,e2]
    exact h1.kept ho (fun q e=>(h2 q).2.1 e)
  · rw [e2,rb]; exact h2
def PQ (w w':World) (Z:Nat→Prop) (p:Nat) (P:Pn):Prop:=∃ Z',(∀ b,b < w.heap.size→Z' b→Z b)∧Pm w' Z' p P∧Only Z w w'
def Pn.over (err:Int) (found:Bool) (val:ByteArray) (ra:Option Addr) (rows:List (ByteArray × ByteArray)) (rc:Nat):Pn :=
  ⟨0,⟨#[]⟩,⟨#[]⟩,⟨#[]⟩,0,0,4,⟨#[]⟩,0,0,none,noE,0,0,none,none,[],0,false,0,noE,⟨#[]⟩,err,found,val,ra,rows,rc⟩
def Pn.see (P:Pn) (page:Int) (f:Nat):Pn:={ P with wk:=3,wkey:=⟨#[]⟩,ws:=0,wp:=page,sh:=some f }
set_option maxHeartbeats 800000 in
theorem see_any (w:World) (Z:Nat→Prop) (p:Nat) (P:Pn) (h:Pm w Z p P) (page:Int) (f:Nat) :
    Calls Tryz.prog 35 #[.pointer (some ⟨p,0,none⟩),.int .i64 page,.func (.func f) #[.pointer (some ⟨p,0,none⟩)] #[]] w fun e w'=>e=.returned (.tuple #[])∧Pm w' Z p (P.see page f)∧Only (fun k=>k=p) w w':=by
  have HH:=hide h
  have c6:=h.cb.c 6 _ rfl
  have c7:=h.cb.c 7 _ rfl
  have c8:=h.cb.c 8 _ rfl
  have c9:=h.cb.c 9 _ rfl
  have c10:=h.cb.c 10 _ rfl
  have f6:=h.cb.f 6
  have f7:=h.cb.f 7
  have f8:=h.cb.f 8
  have f9:=h.cb.f 9
  have f10:=h.cb.f 10
  clear h
  go_enter Tryz.func35,Tryz.ntmps35
  go_wp2_with fail
  refine bodyPost_end (results_none rfl _ _ _) rfl ?_
  have HO:=(((((Only.put w p 6 (.int .i64 3)).puts 7 (.string ⟨#[]⟩)).puts 8 (.int .i64 0)).puts 9 (.int .i64 page)).puts 10 (.func (.func f) #[.pointer (some ⟨p,0,none⟩)] #[]))
  exact ⟨rfl,HH.out.mod HO (((((HH.out.cb.set 6 _).set 7 _).set 8 _).set 9 _).set 10 _) ⟨rfl,rfl,rfl⟩ ⟨rfl,rfl⟩,HO⟩
abbrev pv (a k v r:Int) (h:ByteArray) (ao:Option Addr) (n cp:Nat):Value:=.agg #[.int .i64 a,.int .i64 k,.int .i64 v,.int .i64 r,.string h,.slice ao n cp]
theorem isHeap_any (w:World) (a k v r:Int) (h:ByteArray) (ao:Option Addr) (n cp:Nat) :
    Calls Tryz.prog 105 #[pv a k v r h ao n cp] w fun e w'=>e=.returned (.bool (k == 2))∧Only (fun _=>False) w w':=by
  go_enter Tryz.func105,Tryz.ntmps105
  go_wp2
  go_ret
  exact ⟨rfl,onlyA _ _⟩
theorem tooLong_many (w:World) (a k v r:Int) (h:ByteArray) (ao:Option Addr) (n cp:Nat) (hn:(255:Int) < (n:Int)) :
    Calls Tryz.prog 121 #[pv a k v r h ao n cp] w fun e w'=>e=.returned (.bool true)∧Only (fun _=>False) w w':=by
  go_enter Tryz.func121,Tryz.ntmps121
  go_wp2_with fail
  go_ret
  exact ⟨rfl,onlyA _ _⟩
set_option maxHeartbeats 800000 in
theorem pencode_many (w:World) (h:ByteArray) (ao:Option Addr) (n cp:Nat) (hn:(255:Int) < (n:Int)) :
    Calls Tryz.prog 97 #[pv 0 2 0 0 h ao n cp] w fun e w'=>e=.returned (.tuple #[.string ⟨#[]⟩,.int .i64 3])∧Only (fun _=>False) w w':=by
  have HP:=hide (Pag.new w (.int .i64 0) (.int .i64 2) (.int .i64 0) (.int .i64 0) (.string h) (.slice ao n cp))
  have HO0:=hide (onlyA w (.cells #[.int .i64 0,.int .i64 2,.int .i64 0,.int .i64 0,.string h,.slice ao n cp] 37))
  have HN:=hide hn
  clear hn
  go_enter Tryz.func97,Tryz.ntmps97
  go_wp2_with fail
  refine (inRange_any _ 0 2 0 0 h cp n ao).mono ?_
  rintro e w1 ⟨rfl,ho1⟩
  obtain ⟨p0,p1,p2,p3,p4,p5,_⟩:=HP.out.more ho1
  have HO1:=hide (o2 HO0.out ho1)
  clear ho1
  rw [show decide ((0:Int)≤0∧(1:Int)≤2∧(2:Int)≤3∧(0:Int)≤0∧(0:Int)≤255∧(0:Int)≤0∧(0:Int)≤4294967295)=true from by decide]
  by_cases hh:(255:Int) < (h.size:Int)
  · go_wp2_with fail
    go_ret2
    exact ⟨rfl,HO1.out⟩
  · go_wp2_with fail
    refine (tooLong_many _ 0 2 0 0 h ao n cp HN.out).mono ?_
    rintro e w2 ⟨rfl,ho2⟩
    have HO2:=hide (o2 HO1.out ho2)
    clear ho2 p0 p1 p2 p3 p4 p5
    go_wp2_with fail
    go_ret2
    exact ⟨rfl,HO2.out⟩
structure WithL (W:World) (h:ByteArray) (v:Value) (L:List ByteArray) (ao:Option Addr) (cp:Nat):Prop where
  val:v=.slice ao L.length cp
  enc:∀ W',Only (fun _=>False) W W'→Calls Tryz.prog 97 #[pv 0 2 0 0 h ao L.length cp] W' fun e w'=>(∃ s,e=.returned (.tuple #[.string s,.int .i64 (if fitL h L then 0 else 3)]))∧Only (fun _=>False) W' w'
  size:fitL h L=true→∀ W',Only (fun _=>False) W W'→Calls Tryz.prog 150 #[pv 0 2 0 0 h ao L.length cp] W' fun e w'=>e=.returned (.int .i64 ((20+h.size+isz L:Nat):Int))∧Only (fun _=>False) W' w'
theorem WithL.of {W:World} {base:Nat} {v:Value} {L:List ByteArray} (h:ByteArray) (hh:h.size≤140737488355328) (hL:Ls W base v L) (hs:∀ s ∈ L,s.size≤140737488355328):∃ ao cp,WithL W h v L ao cp:=by
  by_cases hn:L.length≤255
  · obtain ⟨B,ao,cp,rfl,hS,hF,_,_⟩:=hL.strs (by omega) hs
    refine ⟨ao,cp,rfl,fun W' ho=>?_,fun hf W' ho=>?_⟩
    · refine (pencode_any W' 0 2 0 0 h B cp ao L (hS.more ho) hh (by omega)).mono ?_
      rintro e w' ⟨rfl,ho'⟩
      refine ⟨⟨str (Pg.out ⟨0,2,0,0,h,L⟩).1,?_⟩,ho'⟩
      have hr:Pg.inRange ⟨0,2,0,0,h,L⟩:=by unfold Pg.inRange; simp
      have:(Pg.out ⟨0,2,0,0,h,L⟩).2=(if fitL h L then 0 else 3):=by
        cases hf:fitL h L
        · rw [out_long hr (fitL_no.1 hf)]; rfl
        · rw [out_ok hr (fitL_iff.1 hf)]; rfl
      rw [this]
    · refine (psize_any W' 0 2 0 0 h B cp ao L (hS.more ho) hh).mono ?_
      rintro e w' ⟨rfl,ho'⟩
      refine ⟨?_,ho'⟩
      rw [w64_few hs hh hn]
      push_cast
      rfl
  · have hv:∃ ao cp,v=.slice ao L.length cp:=by
      rcases hL.2 with ⟨rfl,h0⟩ | ⟨g,cap,cur,rfl,_⟩
      · exact absurd h0 (by omega)
      · exact ⟨_,_,rfl⟩
    obtain ⟨ao,cp,rfl⟩:=hv
    have hf:fitL h L=false:=fitL_no.2 (by omega)
    refine ⟨ao,cp,rfl,fun W' ho=>?_,fun hf'=>by rw [hf] at hf'; cases hf'⟩
    refine (pencode_many W' h ao L.length cp (by omega)).mono ?_
    rintro e w' ⟨rfl,ho'⟩
    rw [hf]
    exact ⟨⟨_,rfl⟩,ho'⟩
theorem putL_drop (l:List ByteArray) (i m:Nat) (s:ByteArray) (hi:i≤l.length) (hm:m=min (i+1) l.length):l.take i++[s]++l.drop m=putL l i s:=by
  unfold putL
  rw [List.append_assoc,List.singleton_append]
  by_cases h:i < l.length
  · rw [show m=i+1 by omega]
  · rw [List.drop_of_length_le (by omega),List.drop_of_length_le (by omega)]
theorem putL_mem {l:List ByteArray} {i:Nat} {s x:ByteArray} (h:x ∈ putL l i s):x=s∨x ∈ l:=by
  unfold putL at h
  rcases List.mem_append.1 h with h | h
  · exact .inr (List.mem_of_mem_take h)
  · rcases List.mem_cons.1 h with h | h
    · exact .inl h
    · exact .inr (List.mem_of_mem_drop h)
theorem with_cat (W0:World) (B cp:Nat) (ao A2:Option Addr) (l:List ByteArray) (i m:Nat) (s:ByteArray) (hS:Strs W0 B ao l) (hF:Fit ao l.length cp) (hs:s.size≤140737488355328) (hi:i≤l.length) (hm:m=min (i+1) l.length)
    (hA:∀ b o,ao=some ⟨b,o,none⟩→m < l.length→A2=some ⟨b,o+m,none⟩) (hA0:A2=none→ao=none) (W:World)
    (hW:W=(W0.alloc (.cells #[.string s] 9)).alloc (.cells #[.slice ao i cp,.slice (some ⟨W0.heap.size,0,none⟩) 1 1,.slice A2 (l.length - m) (cp - m)] 35)) :
    Calls Tryz.prog 129 #[.slice (some ⟨W0.heap.size+1,0,none⟩) 3 3] W fun e w'=>∃ v,e=.returned v∧Ls w' W.heap.size v (putL l i s)∧Only (fun _=>False) W0 w':=by
  have hlen:=hS.len
  have hcp:=hF.le
  have hbig:=hF.big
  have hS1:=(Strs.one W0 s hs).more (onlyA _ (.cells #[.slice ao i cp,.slice (some ⟨W0.heap.size,0,none⟩) 1 1,.slice A2 (l.length - m) (cp - m)] 35))
  have ho:Only (fun _=>False) W0 W:=by rw [hW]; exact o2 (onlyA _ _) (onlyA _ _)
  rw [← hW] at hS1
  have hS2:=hS.more ho
  have hz1:(W0.alloc (.cells #[.string s] 9)).heap.size=W0.heap.size+1:=by simp
  have hlt:W0.heap.size+1 < W.heap.size:=by rw [hW]; simp
  have hc:∀ j (x:Value),#[Value.slice ao i cp,.slice (some ⟨W0.heap.size,0,none⟩) 1 1,.slice A2 (l.length - m) (cp - m)][j]?=some x→W.cell? ⟨W0.heap.size+1,j,none⟩=some x:=by
    intro j x hx
    rw [hW,← hz1]
    simpa using hx
  have hSd:Strs W B A2 (l.drop m):=by
    by_cases h0:m < l.length
    · obtain ⟨o,e,_⟩:=hS.at_ (by omega)
      rw [e] at hS2
      exact hS2.drop m A2 (fun hk=>hA B o e hk)
    · rw [List.drop_of_length_le (by omega)]
      exact Strs.nil _ _ _
  have key:=cat3 W (W0.heap.size+1) ao (some ⟨W0.heap.size,0,none⟩) A2 cp 1 (cp - m) B W0.heap.size B i 1 (l.length - m) (l.take i) [s] (l.drop m)
    (by simp; omega) rfl (by simp) (hc 0 _ rfl) (hc 1 _ rfl) (hc 2 _ rfl) (hS2.take i) hS1 hSd
    ⟨hF.nil,by omega,hbig⟩ ⟨(fun h=>by cases h),by omega,(by unfold maxLen; omega)⟩ ⟨(fun h=>by have:=hF.nil (hA0 h); omega),by omega,by omega⟩ hlt (by omega)
  rw [putL_drop l i m s hi hm] at key
  refine Calls.mono key ?_
  rintro e w5 ⟨v5,rfl,hl5,ho5⟩
  exact ⟨v5,rfl,hl5,o2 ho ho5⟩
end Go.Proofs.YtajjakljheafjaaGreat
namespace Go.Proofs.YtajjakljheafjaaGreat
open Go.RowKit
theorem two_of {l:List ByteArray} (h:l.length=2):∃ s t,l=[s,t]:=by
  match l,h with
  | [s,t],_=>exact ⟨s,t,rfl⟩
theorem check_mod (w:World) (m a k v r:Int) (h:ByteArray) (cp n:Nat) (ao:Option Addr) (hm:I64 m) (hM:¬ Md m) :
    Calls Tryz.prog 74 #[.int .i64 m,.agg #[.int .i64 a,.int .i64 k,.int .i64 v,.int .i64 r,.string h,.slice ao n cp]] w fun e w'=>e=.returned (.int .i64 1)∧Only (fun _=>False) w w':=by
  have HM:=hide (fun W=>cisModulus_any m W hm)
  simp only [decide_eq_false hM] at HM
  clear hM
  have HO:=hide (onlyA w (.cells #[.int .i64 a,.int .i64 k,.int .i64 v,.int .i64 r,.string h,.slice ao n cp] 37))
  go_enter Tryz.func74,Tryz.ntmps74
  go_wp2_with fail
  refine (HM.out _).mono ?_
  rintro e w1 ⟨rfl,hw⟩
  obtain rfl:=hw.symm
  clear hw
  go_wp2_with fail
  go_ret
  exact ⟨rfl,HO.out⟩
theorem check_head (w:World) (m a k v r:Int) (h:ByteArray) (cp n:Nat) (ao:Option Addr) (hM:Md m) (hH:¬ ((k=1∧0≤a∧v=0∧r=0∧h=⟨#[]⟩)∧n=2)) :
    Calls Tryz.prog 74 #[.int .i64 m,.agg #[.int .i64 a,.int .i64 k,.int .i64 v,.int .i64 r,.string h,.slice ao n cp]] w fun e w'=>e=.returned (.int .i64 31)∧Only (fun _=>False) w w':=by
  have HM:=hide (fun W=>cisModulus_any m W ⟨by have:=hM.1; omega,by have:=hM.2.1; omega⟩)
  simp only [decide_eq_true hM] at HM
  clear hM
  have HI:=hide (fun W=>isHead_any W a k v r h cp n ao)
  have HO:=hide (onlyA w (.cells #[.int .i64 a,.int .i64 k,.int .i64 v,.int .i64 r,.string h,.slice ao n cp] 37))
  have HP:=hide (Pag.new w (.int .i64 a) (.int .i64 k) (.int .i64 v) (.int .i64 r) (.string h) (.slice ao n cp))
  by_cases hd:(k=1∧0≤a∧v=0∧r=0∧h=⟨#[]⟩)
  · simp only [decide_eq_true hd] at HI
    have hn:¬ (n:Int)=2:=fun e=>hH ⟨hd,by omega⟩
    clear hd hH
    go_enter Tryz.func74,Tryz.ntmps74
    go_wp2_with fail
    refine (HM.out _).mono ?_
    rintro e w1 ⟨rfl,hw⟩
    obtain rfl:=hw.symm
    clear hw
    go_wp2_with fail
    refine (HI.out _).mono ?_
    rintro e w2 ⟨rfl,ho2⟩
    have c5:=(HP.out.more ho2).c5
    have HO2:=hide (o2 HO.out ho2)
    clear ho2
    go_wp2_with fail
    go_ret
    exact ⟨rfl,HO2.out⟩
  · simp only [decide_eq_false hd] at HI
    clear hd hH
    go_enter Tryz.func74,Tryz.ntmps74
    go_wp2_with fail
    refine (HM.out _).mono ?_
    rintro e w1 ⟨rfl,hw⟩
    obtain rfl:=hw.symm
    clear hw
    go_wp2_with fail
    refine (HI.out _).mono ?_
    rintro e w2 ⟨rfl,ho2⟩
    have HO2:=hide (o2 HO.out ho2)
    clear ho2
    go_wp2_with fail
    go_ret
    exact ⟨rfl,HO2.out⟩
theorem check_two (w:World) (m a:Int) (cp B:Nat) (ao:Option Addr) (s0 s1:ByteArray) (hM:Md m) (ha:0≤a) (hS:Strs w B ao [s0,s1]) :
    Calls Tryz.prog 74 #[.int .i64 m,.agg #[.int .i64 a,.int .i64 1,.int .i64 0,.int .i64 0,.string ⟨#[]⟩,.slice ao 2 cp]] w fun e w'=>e=.returned (.int .i64 (if lim m s0=0∨¬ (s1.size=nb m∧topOk m s1) then 31 else 0))∧Only (fun _=>False) w w':=by
  have HM:=hide (fun W=>cisModulus_any m W ⟨by have:=hM.1; omega,by have:=hM.2.1; omega⟩)
  simp only [decide_eq_true hM] at HM
  have HI:Hid (∀ W,Calls Tryz.prog 118 #[.agg #[.int .i64 a,.int .i64 1,.int .i64 0,.int .i64 0,.string ⟨#[]⟩,.slice ao 2 cp]] W fun e w'=>e=.returned (.bool true)∧Only (fun _=>False) W w'):=by
    intro W
    have q:=isHead_any W a 1 0 0 ⟨#[]⟩ cp 2 ao
    rw [decide_eq_true (⟨rfl,ha,rfl,rfl,rfl⟩:(1:Int)=1∧0≤a∧(0:Int)=0∧(0:Int)=0∧(⟨#[]⟩:ByteArray)=⟨#[]⟩)] at q
    exact q
  have HL:=hide (fun W=>readLimit_any m s0 W (by have:=hM.1; omega))
  have HA:=hide (fun W=>careStatuses_any m s1 W hM)
  have HO:=hide (onlyA w (.cells #[.int .i64 a,.int .i64 1,.int .i64 0,.int .i64 0,.string ⟨#[]⟩,.slice ao 2 cp] 37))
  have HP:=hide (Pag.new w (.int .i64 a) (.int .i64 1) (.int .i64 0) (.int .i64 0) (.string ⟨#[]⟩) (.slice ao 2 cp))
  have hlb:=lim_bd (by have:=hM.1; omega:0≤m) s0
  have hm2:=hM.2.1
  obtain ⟨o,rfl,hc⟩:=hS.at_ (by simp)
  have HS:=hide hS
  have hB:=hS.lt (by simp)
  have hc0:=hc 0 (by simp)
  have hc1:=hc 1 (by simp)
  simp only [List.getElem_cons_zero,List.getElem_cons_succ,Nat.add_zero] at hc0 hc1
  have HC0:=hide hc0
  have HC1:=hide hc1
  clear hS hc hc0 hc1 hM
  obtain ⟨L,hL⟩:=exq (lim m s0)
  obtain ⟨T,hT⟩:=exq (decide (s1.size=nb m∧topOk m s1))
  have HR:Hid ((if lim m s0=0∨¬ (s1.size=nb m∧topOk m s1) then (31:Int) else 0)=if L=0∨T=false then 31 else 0):=by
    unfold Hid
    rw [hL]
    by_cases hq:s1.size=nb m∧topOk m s1
    · rw [decide_eq_true hq] at hT
      rw [← hT]
      simp [hq]
    · rw [decide_eq_false hq] at hT
      rw [← hT]
      simp [hq]
  rw [HR.out]
  simp only [hL] at HL hlb
  simp only [hT] at HA
  clear HR hL hT
  by_cases h0:L=0
  · rw [if_pos (.inl h0)]
    subst h0
    go_enter Tryz.func74,Tryz.ntmps74
    go_wp2_with fail
    refine (HM.out _).mono ?_
    rintro e w1 ⟨rfl,hw⟩
    obtain rfl:=hw.symm
    clear hw
    go_wp2_with fail
    refine (HI.out _).mono ?_
    rintro e w2 ⟨rfl,ho2⟩
    have c5:=(HP.out.more ho2).c5
    have HO2:=hide (o2 HO.out ho2)
    have d0:=(HO2.out.cell (p:=⟨B,o,none⟩) hB (fun h=>h)).trans HC0.out
    clear ho2
    go_wp2_with fail
    refine (HL.out _).mono ?_
    rintro e w3 ⟨rfl,ho3⟩
    have HO3:=hide (o2 HO2.out ho3)
    clear ho3
    go_wp2_with fail
    go_ret
    exact ⟨rfl,HO3.out⟩
  · have hne:(L == 0)=false:=by simp [h0]
    cases T with
    | false=>
      rw [if_pos (.inr rfl)]
      go_enter Tryz.func74,Tryz.ntmps74
      go_wp2_with fail
      refine (HM.out _).mono ?_
      rintro e w1 ⟨rfl,hw⟩
      obtain rfl:=hw.symm
      clear hw
      go_wp2_with fail
      refine (HI.out _).mono ?_
      rintro e w2 ⟨rfl,ho2⟩
      have c5:=(HP.out.more ho2).c5
      have HP2:=hide (HP.out.more ho2)
      have HO2:=hide (o2 HO.out ho2)
      have d0:=(HO2.out.cell (p:=⟨B,o,none⟩) hB (fun h=>h)).trans HC0.out
      clear ho2
      go_wp2_with fail
      refine (HL.out _).mono ?_
      rintro e w3 ⟨rfl,ho3⟩
      clear c5 d0
      have c5:=(HP2.out.more ho3).c5
      have HO3:=hide (o2 HO2.out ho3)
      have d1:=(HO3.out.cell (p:=⟨B,o+1,none⟩) hB (fun h=>h)).trans HC1.out
      clear ho3
      go_wp2_with fail
      refine (HA.out _).mono ?_
      rintro e w4 ⟨rfl,hw⟩
      obtain rfl:=hw.symm
      clear hw
      go_wp2_with fail
      go_ret
      exact ⟨rfl,HO3.out⟩
    | true=>
      rw [if_neg (fun h=>h.elim h0 (fun e=>by cases e))]
      go_enter Tryz.func74,Tryz.ntmps74
      go_wp2_with fail
      refine (HM.out _).mono ?_
      rintro e w1 ⟨rfl,hw⟩
      obtain rfl:=hw.symm
      clear hw
      go_wp2_with fail
      refine (HI.out _).mono ?_
      rintro e w2 ⟨rfl,ho2⟩
      have c5:=(HP.out.more ho2).c5
      have HP2:=hide (HP.out.more ho2)
      have HO2:=hide (o2 HO.out ho2)
      have d0:=(HO2.out.cell (p:=⟨B,o,none⟩) hB (fun h=>h)).trans HC0.out
      clear ho2
      go_wp2_with fail
      refine (HL.out _).mono ?_
      rintro e w3 ⟨rfl,ho3⟩
      clear c5 d0
      have c5:=(HP2.out.more ho3).c5
      have HO3:=hide (o2 HO2.out ho3)
      have d1:=(HO3.out.cell (p:=⟨B,o+1,none⟩) hB (fun h=>h)).trans HC1.out
      clear ho3
      go_wp2_with fail
      refine (HA.out _).mono ?_
      rintro e w4 ⟨rfl,hw⟩
      obtain rfl:=hw.symm
      clear hw
      go_wp2_with fail
      go_ret
      exact ⟨rfl,HO3.out⟩
theorem ccheck_any (w:World) (m a k v r:Int) (h:ByteArray) (cp B:Nat) (ao:Option Addr) (l:List ByteArray) (hm:I64 m) (hS:Strs w B ao l) :
    Calls Tryz.prog 74 #[.int .i64 m,.agg #[.int .i64 a,.int .i64 k,.int .i64 v,.int .i64 r,.string h,.slice ao l.length cp]] w fun e w'=>e=.returned (.int .i64 (chk m ⟨a,k,v,r,h,l⟩))∧Only (fun _=>False) w w':=by
  by_cases hM:Md m
  · by_cases hH:(k=1∧0≤a∧v=0∧r=0∧h=⟨#[]⟩)∧l.length=2
    · obtain ⟨⟨rfl,ha,rfl,rfl,rfl⟩,hl⟩:=hH
      obtain ⟨s0,s1,rfl⟩:=two_of hl
      refine (check_two w m a cp B ao s0 s1 hM ha hS).mono ?_
      rintro e w' ⟨rfl,ho⟩
      refine ⟨ret_int ?_,ho⟩
      by_cases hq:lim m s0=0∨¬ (s1.size=nb m∧topOk m s1)
      · rw [if_pos hq,chk_bad hM]
        intro hk
        rcases hq with hq | hq
        · exact hk.lm hq
        · exact hq ⟨hk.size,hk.top⟩
      · rw [if_neg hq,chk_ok hM]
        simp only [not_or,Classical.not_not] at hq
        exact ⟨rfl,ha,rfl,rfl,rfl,rfl,hq.1,hq.2.1,hq.2.2⟩
    · rw [chk_bad hM (fun hk=>hH ⟨⟨hk.kind,hk.lsn,hk.level,hk.right,hk.high⟩,hk.two⟩)]
      exact check_head w m a k v r h cp l.length ao hM hH
  · rw [chk_mod hM]
    exact check_mod w m a k v r h cp l.length ao hm hM
noncomputable def cid (m:Int) (p:Pg) (x:Int):Int:=if chk m p=0 then (if Idd m x then 0 else 1) else chk m p
theorem chk_bd (m:Int) (p:Pg):chk m p=0∨chk m p=1∨chk m p=31:=by
  unfold chk
  split
  · split
    · exact .inl rfl
    · exact .inr (.inr rfl)
  · exact .inr (.inl rfl)
theorem cid_bd (m:Int) (p:Pg) (x:Int):cid m p x=0∨cid m p x=1∨cid m p x=31:=by
  unfold cid
  split
  · split
    · exact .inl rfl
    · exact .inr (.inl rfl)
  · exact chk_bd m p
theorem chk_zero {m:Int} {p:Pg} (h:chk m p=0):Md m∧OkP m p:=by
  by_cases hM:Md m
  · refine ⟨hM,Classical.byContradiction fun hk=>?_⟩
    rw [chk_bad hM hk] at h
    omega
  · rw [chk_mod hM] at h
    omega
theorem cid_zero {m x:Int} {p:Pg} (h:cid m p x=0):Idd m x∧OkP m p:=by
  unfold cid at h
  split at h
  · rename_i h1
    split at h
    · rename_i h2
      exact ⟨h2,(chk_zero h1).2⟩
    · omega
  · rename_i h1
    exact absurd h h1
theorem cid_ok {m x:Int} {p:Pg} (h:Idd m x) (k:OkP m p):cid m p x=0:=by
  unfold cid
  rw [if_pos (chk_ok h.1 k),if_pos h]
theorem checkWithID_any (w:World) (m a k v r x:Int) (h:ByteArray) (cp B:Nat) (ao:Option Addr) (l:List ByteArray) (hm:I64 m) (hx:I64 x) (hS:Strs w B ao l) :
    Calls Tryz.prog 41 #[.int .i64 m,.agg #[.int .i64 a,.int .i64 k,.int .i64 v,.int .i64 r,.string h,.slice ao l.length cp],.int .i64 x] w fun e w'=>e=.returned (.int .i64 (cid m ⟨a,k,v,r,h,l⟩ x))∧Only (fun _=>False) w w':=by
  have HC:=hide (fun W (ho:Only (fun _=>False) w W)=>ccheck_any W m a k v r h cp B ao l hm (hS.more ho))
  have HI:=hide (fun W=>cisID_any m x W hm hx)
  have hcb:=chk_bd m ⟨a,k,v,r,h,l⟩
  have HO:=hide (onlyA w (.cells #[.int .i64 a,.int .i64 k,.int .i64 v,.int .i64 r,.string h,.slice ao l.length cp] 37))
  obtain ⟨C,hC⟩:=exq (chk m ⟨a,k,v,r,h,l⟩)
  obtain ⟨I,hI⟩:=exq (decide (Idd m x))
  have HR:Hid (cid m ⟨a,k,v,r,h,l⟩ x=if C=0 then (if I=true then 0 else 1) else C):=by
    unfold Hid cid
    rw [hC,← hI]
    simp
  rw [HR.out]
  simp only [hC] at HC hcb
  simp only [hI] at HI
  have hm1:=hm.1
  have hm2:=hm.2
  have hx1:=hx.1
  have hx2:=hx.2
  clear HR hC hI hm hx hS
  by_cases h0:C=0
  · rw [if_pos h0]
    subst h0
    clear hcb
    cases I
    all_goals
      go_enter Tryz.func41,Tryz.ntmps41
      go_wp2_with fail
      refine (HC.out _ HO.out).mono ?_
      rintro e w1 ⟨rfl,ho⟩
      have HO1:=hide (o2 HO.out ho)
      clear ho
      go_wp2_with fail
      refine (HI.out _).mono ?_
      rintro e w2 ⟨rfl,hw⟩
      obtain rfl:=hw.symm
      clear hw
      go_wp2_with fail
      go_ret
      exact ⟨rfl,HO1.out⟩
  · rw [if_neg h0]
    have hne:(C != 0)=true:=by simp [h0]
    clear h0
    go_enter Tryz.func41,Tryz.ntmps41
    go_wp2_with fail
    refine (HC.out _ HO.out).mono ?_
    rintro e w1 ⟨rfl,ho⟩
    have HO1:=hide (o2 HO.out ho)
    clear ho
    go_wp2_with fail
    go_ret
    exact ⟨rfl,HO1.out⟩
theorem and3:∀ n:Fin 256,bits BinOp.and IntKind.u8 (n.val:Int) 3=((n.val % 4:Nat):Int):=by
  decide +kernel
theorem st_and {n:Nat} (h:n < 256) (d k:Nat) (hd:d=4 ^ k):bits BinOp.and IntKind.u8 ((n:Int) / (d:Int)) 3=(dig n k:Int):=by
  have hle:n / d≤n:=Nat.div_le_self _ _
  have:=and3 ⟨n / d,by omega⟩
  unfold dig
  rw [← hd,← this]
  simp
theorem ret_st {a b:Int} (h:a=b):Ending.returned (.tuple #[.int .u8 a,.int .i64 0])=.returned (.tuple #[.int .u8 b,.int .i64 0]):=by rw [h]
noncomputable def gst (m:Int) (p:Pg) (x:Int):Nat:=if cid m p x=0 then stAt (bl (it1 p)) (x - 1).toNat else 0
theorem cget_err (w:World) (m a k v r x:Int) (h:ByteArray) (cp B:Nat) (ao:Option Addr) (l:List ByteArray) (hm:I64 m) (hx:I64 x) (hS:Strs w B ao l) (hc:¬ cid m ⟨a,k,v,r,h,l⟩ x=0) :
    Calls Tryz.prog 203 #[.int .i64 m,.agg #[.int .i64 a,.int .i64 k,.int .i64 v,.int .i64 r,.string h,.slice ao l.length cp],.int .i64 x] w fun e w'=>e=.returned (.tuple #[.int .u8 0,.int .i64 (cid m ⟨a,k,v,r,h,l⟩ x)])∧Only (fun _=>False) w w':=by
  have HC:=hide (fun W (ho:Only (fun _=>False) w W)=>checkWithID_any W m a k v r x h cp B ao l hm hx (hS.more ho))
  have HO:=hide (onlyA w (.cells #[.int .i64 a,.int .i64 k,.int .i64 v,.int .i64 r,.string h,.slice ao l.length cp] 37))
  have hcb:=cid_bd m ⟨a,k,v,r,h,l⟩ x
  obtain ⟨C,hC⟩:=exq (cid m ⟨a,k,v,r,h,l⟩ x)
  rw [hC] at hc hcb
  simp only [hC] at HC
  rw [hC]
  have hne:(C != 0)=true:=by simp [hc]
  have hx1:=hx.1
  have hx2:=hx.2
  clear hC hc hm hx hS
  go_enter Tryz.func203,Tryz.ntmps203
  go_wp2_with fail
  refine (HC.out _ HO.out).mono ?_
  rintro e w1 ⟨rfl,ho⟩
  have HO1:=hide (o2 HO.out ho)
  clear ho
  go_wp2_with fail
  go_ret2
  exact ⟨rfl,HO1.out⟩
theorem byt_is {s:ByteArray} {q:Nat} (hq:q < s.size):byt (bl s) q=(s[q]'hq).toNat:=by
  unfold byt
  rw [List.getD_eq_getElem?_getD,List.getElem?_eq_getElem (by rw [bl_len]; exact hq)]
  rfl
theorem cget_ok (w:World) (m a x:Int) (cp B:Nat) (ao:Option Addr) (s0 s1:ByteArray) (hS:Strs w B ao [s0,s1]) (hO:OkP m ⟨a,1,0,0,⟨#[]⟩,[s0,s1]⟩) (hI:Idd m x) :
    Calls Tryz.prog 203 #[.int .i64 m,.agg #[.int .i64 a,.int .i64 1,.int .i64 0,.int .i64 0,.string ⟨#[]⟩,.slice ao 2 cp],.int .i64 x] w fun e w'=>e=.returned (.tuple #[.int .u8 (stAt (bl s1) (x - 1).toNat:Int),.int .i64 0])∧Only (fun _=>False) w w':=by
  have hm:I64 m:=⟨by have:=hI.1.1; omega,by have:=hI.1.2.1; omega⟩
  have hx:I64 x:=⟨by have:=hI.2; omega,by have:=hI.2; have:=hI.1.2.1; omega⟩
  have HC:=hide (fun W (ho:Only (fun _=>False) w W)=>checkWithID_any W m a 1 0 0 x ⟨#[]⟩ cp B ao [s0,s1] hm hx (hS.more ho))
  simp only [cid_ok hI hO] at HC
  have HO:=hide (onlyA w (.cells #[.int .i64 a,.int .i64 1,.int .i64 0,.int .i64 0,.string ⟨#[]⟩,.slice ao 2 cp] 37))
  have HPL:=hide (fun W=>cplace_any x W hI.2.1 (by have:=hI.2; have:=hI.1.2.1; omega))
  have HP:=hide (Pag.new w (.int .i64 a) (.int .i64 1) (.int .i64 0) (.int .i64 0) (.string ⟨#[]⟩) (.slice ao 2 cp))
  have hq:(x - 1).toNat / 4 < s1.size:=by have:=at_lt hI hO.size; rw [bl_len] at this; exact this
  obtain ⟨R,hR⟩:=exq (stAt (bl s1) (x - 1).toNat)
  have HV:Hid (R=dig (byt (bl s1) ((x - 1).toNat / 4)) ((x - 1).toNat % 4)):=hR.symm
  rw [hR]
  clear hR
  obtain ⟨o,rfl,hc⟩:=hS.at_ (by simp)
  have hB:=hS.lt (by simp)
  have hc1:=hc 1 (by simp)
  simp only [List.getElem_cons_zero,List.getElem_cons_succ] at hc1
  have HC1:=hide hc1
  have hk4:(x - 1).toNat % 4 < 4:=by omega
  obtain ⟨q,hqq⟩:=exq ((x - 1).toNat / 4)
  obtain ⟨k,hkk⟩:=exq ((x - 1).toNat % 4)
  simp only [hqq,hkk] at HPL hk4 HV
  rw [hqq] at hq
  have hqs:(q:Int) < (s1.size:Int):=by omega
  rw [byt_is hq] at HV
  have hx1:=hx.1
  have hx2:=hx.2
  have hb:=UInt8.toNat_lt (s1[q]'hq)
  clear hkk hqq hc hc1 hS hO hI hm hx
  simp only [List.length_cons,List.length_nil,Nat.zero_add,Nat.reduceAdd] at HC
  rcases k4 hk4 with rfl | rfl | rfl | rfl
  · go_enter Tryz.func203,Tryz.ntmps203
    go_wp2_with fail
    refine (HC.out _ HO.out).mono ?_
    rintro e w1 ⟨rfl,ho⟩
    have HO1:=hide (o2 HO.out ho)
    have c5:=(HP.out.more ho).c5
    have d1:=(HO1.out.cell (p:=⟨B,o+1,none⟩) hB (fun h=>h)).trans HC1.out
    clear ho
    go_wp2_with fail
    refine (HPL.out _).mono ?_
    rintro e w2 ⟨rfl,hw⟩
    obtain rfl:=hw.symm
    clear hw
    go_wp2_with fail
    go_ret2
    refine ⟨ret_st ?_,HO1.out⟩
    have hv:=st_and hb 1 0 rfl
    rw [HV.out]
    simpa using hv
  · go_enter Tryz.func203,Tryz.ntmps203
    go_wp2_with fail
    refine (HC.out _ HO.out).mono ?_
    rintro e w1 ⟨rfl,ho⟩
    have HO1:=hide (o2 HO.out ho)
    have c5:=(HP.out.more ho).c5
    have d1:=(HO1.out.cell (p:=⟨B,o+1,none⟩) hB (fun h=>h)).trans HC1.out
    clear ho
    go_wp2_with fail
    refine (HPL.out _).mono ?_
    rintro e w2 ⟨rfl,hw⟩
    obtain rfl:=hw.symm
    clear hw
    go_wp2_with fail
    go_ret2
    refine ⟨ret_st ?_,HO1.out⟩
    have hv:=st_and hb 4 1 rfl
    rw [HV.out]
    simpa using hv
  · go_enter Tryz.func203,Tryz.ntmps203
    go_wp2_with fail
    refine (HC.out _ HO.out).mono ?_
    rintro e w1 ⟨rfl,ho⟩
    have HO1:=hide (o2 HO.out ho)
    have c5:=(HP.out.more ho).c5
    have d1:=(HO1.out.cell (p:=⟨B,o+1,none⟩) hB (fun h=>h)).trans HC1.out
    clear ho
    go_wp2_with fail
    refine (HPL.out _).mono ?_
    rintro e w2 ⟨rfl,hw⟩
    obtain rfl:=hw.symm
    clear hw
    go_wp2_with fail
    go_ret2
    refine ⟨ret_st ?_,HO1.out⟩
    have hv:=st_and hb 16 2 rfl
    rw [HV.out]
    simpa using hv
  · go_enter Tryz.func203,Tryz.ntmps203
    go_wp2_with fail
    refine (HC.out _ HO.out).mono ?_
    rintro e w1 ⟨rfl,ho⟩
    have HO1:=hide (o2 HO.out ho)
    have c5:=(HP.out.more ho).c5
    have d1:=(HO1.out.cell (p:=⟨B,o+1,none⟩) hB (fun h=>h)).trans HC1.out
    clear ho
    go_wp2_with fail
    refine (HPL.out _).mono ?_
    rintro e w2 ⟨rfl,hw⟩
    obtain rfl:=hw.symm
    clear hw
    go_wp2_with fail
    go_ret2
    refine ⟨ret_st ?_,HO1.out⟩
    have hv:=st_and hb 64 3 rfl
    rw [HV.out]
    simpa using hv
theorem cget_any (w:World) (m a k v r x:Int) (h:ByteArray) (cp B:Nat) (ao:Option Addr) (l:List ByteArray) (hm:I64 m) (hx:I64 x) (hS:Strs w B ao l) :
    Calls Tryz.prog 203 #[.int .i64 m,.agg #[.int .i64 a,.int .i64 k,.int .i64 v,.int .i64 r,.string h,.slice ao l.length cp],.int .i64 x] w fun e w'=>e=.returned (.tuple #[.int .u8 (gst m ⟨a,k,v,r,h,l⟩ x:Int),.int .i64 (cid m ⟨a,k,v,r,h,l⟩ x)])∧Only (fun _=>False) w w':=by
  by_cases hc:cid m ⟨a,k,v,r,h,l⟩ x=0
  · obtain ⟨hI,hO⟩:=cid_zero hc
    unfold gst
    rw [if_pos hc,hc]
    clear hc
    have h1:=hO.kind
    have h2:=hO.level
    have h3:=hO.right
    have h4:=hO.high
    simp only at h1 h2 h3 h4
    subst h1 h2 h3 h4
    obtain ⟨s0,s1,rfl⟩:=two_of hO.two
    exact cget_ok w m a x cp B ao s0 s1 hS hO hI
  · unfold gst
    rw [if_neg hc]
    exact cget_err w m a k v r x h cp B ao l hm hx hS hc
theorem bytes_made (w:World) (s:ByteArray):∃ (W1:World) (cap:Nat),(convert 9 112 (.string s)).run Tryz.prog w=.ok (.slice (some ⟨w.heap.size,0,none⟩) s.size cap) W1∧Byt W1 w.heap.size (bl s)∧Only (fun _=>False) w W1:=by
  refine ⟨_,_,run_bytes_of_string (P:=Tryz.prog) w 9 112 5 s Tryz.underlying9 Tryz.underlying112 Tryz.underlying5,⟨?_,?_,?_⟩,?_⟩
  · intro j hj
    rw [bl_len] at hj
    generalize grownCap w s.size 0 5=cap
    have hb:(w.drew.alloc (.cells (bytesRow s cap) 5 ((bytesRow s cap).size,(bytesRow s cap).size+1))).heap[w.heap.size]?=some (.cells (bytesRow s cap) 5 ((bytesRow s cap).size,(bytesRow s cap).size+1)):=heap_alloc_new w.drew _
    rw [cell_of_row _ w.heap.size j (bytesRow s cap) 5 _ hb]
    unfold bytesRow
    rw [Array.getElem?_append_left (by simpa using hj)]
    have hj':j < s.data.size:=hj
    simp [Array.getElem?_map,Array.getElem?_eq_getElem hj']
  · intro j hj
    rw [bl_len] at hj
    generalize hcap:grownCap w s.size 0 5=cap
    have hb:(w.drew.alloc (.cells (bytesRow s cap) 5 ((bytesRow s cap).size,(bytesRow s cap).size+1))).heap[w.heap.size]?=some (.cells (bytesRow s cap) 5 ((bytesRow s cap).size,(bytesRow s cap).size+1)):=heap_alloc_new w.drew _
    have hl:s.size≤(bytesRow s cap).size:=by unfold bytesRow; rw [Array.size_append,Array.size_map]; exact Nat.le_add_right _ _
    unfold World.frozen?
    rw [hb]
    simp
    omega
  · simp
  · exact (Only.drew _ w).trans (Only.alloc _ _ _) (fun _ _ h=>h) (T:=fun _=>False)
theorem Byt.back {w:World} {g cp:Nat} {l:List UInt8} (h:Byt w g l):(convert 112 9 (.slice (some ⟨g,0,none⟩) l.length cp)).run Tryz.prog w=.ok (.string (str l)) w:=by
  refine run_convert_bytes_back w 112 9 5 ⟨g,0,none⟩ cp l Tryz.underlying112 Tryz.underlying5 Tryz.underlying9 (fun j hj=>?_)
  rw [add_at,Nat.zero_add]
  exact h.c j hj
theorem res_end {w w6:World} {b B cp:Nat} {ao:Option Addr} (hb:w.heap.size≤b) (p:Pg) (hS:Strs w6 B ao p.items) (hF:Fit ao p.items.length cp) (ho:Only (fun _=>False) w w6) (hB:0 < p.items.length→b < B) (c:Int) (v0 v1 v2 v3 v4 v5:Value) :
    Res w ((((((w6.setCell ⟨b,0,none⟩ v0).setCell ⟨b,1,none⟩ v1).setCell ⟨b,2,none⟩ v2).setCell ⟨b,3,none⟩ v3).setCell ⟨b,4,none⟩ v4).setCell ⟨b,5,none⟩ v5)
      (.returned (.tuple #[.agg #[.int .i64 p.lsn,.int .i64 p.kind,.int .i64 p.level,.int .i64 p.right,.string p.high,.slice ao p.items.length cp],.int .i64 c])) p c:=by
  have h6:=Only.six w6 b v0 v1 v2 v3 v4 v5
  exact ⟨B,ao,cp,rfl,hS.kept h6 (fun h e=>by have:=hB h; omega),hF,ho.trans h6 (fun i hi e=>by omega),fun h=>by have:=hB h; omega⟩
set_option maxHeartbeats 800000 in
theorem cset_ok (w:World) (m a x:Int) (cp B:Nat) (ao:Option Addr) (s0 s1:ByteArray) (s:Nat) (hS:Strs w B ao [s0,s1]) (hO:OkP m ⟨a,1,0,0,⟨#[]⟩,[s0,s1]⟩) (hI:Idd m x) (hs:s < 4) :
    Calls Tryz.prog 20 #[.int .i64 m,.agg #[.int .i64 a,.int .i64 1,.int .i64 0,.int .i64 0,.string ⟨#[]⟩,.slice ao 2 cp],.int .i64 x,.int .u8 (s:Int)] w fun e w'=>Res w w' e ⟨a,1,0,0,⟨#[]⟩,[s0,str (stSet (bl s1) (x - 1).toNat s)]⟩ 0:=by
  have hm:I64 m:=⟨by have:=hI.1.1; omega,by have:=hI.1.2.1; omega⟩
  have hx:I64 x:=⟨by have:=hI.2; omega,by have:=hI.2; have:=hI.1.2.1; omega⟩
  have HC:=hide (fun W (ho:Only (fun _=>False) w W)=>checkWithID_any W m a 1 0 0 x ⟨#[]⟩ cp B ao [s0,s1] hm hx (hS.more ho))
  simp only [cid_ok hI hO] at HC
  have HO:=hide (boxes_only w a 1 0 0 ⟨#[]⟩ (.slice ao 2 cp))
  have HP:=hide (boxes_two w a 1 0 0 ⟨#[]⟩ (.slice ao 2 cp))
  have HQ:=hide (boxes_one w a 1 0 0 ⟨#[]⟩ (.slice ao 2 cp))
  unfold boxes at HO HP HQ
  have hq:=at_lt hI hO.size
  have hsz:s1.size=nb m:=hO.size
  have hnb:=nb_bd hI.1
  have HLY:=hide (fun (W:World) (g cap:Nat) (hB:Byt W g (bl s1))=>clay_any W g cap (bl s1) x s hB hI.2.1 (by have:=hI.2; have:=hI.1.2.1; omega) hq hs)
  obtain ⟨T,hT⟩:=exq (stSet (bl s1) (x - 1).toNat s)
  have hTl:T.length=s1.size:=by rw [← hT,stSet_len,bl_len]
  rw [hT]
  simp only [hT] at HLY
  have HTL:=hide hTl
  have hs0:s0.size≤10:=by
    have hc:=lim_canon hO.lm
    have:s0=str (sev (lim m s0).toNat):=hc
    rw [this,str_size]
    exact sevF_len 9 _
  have HFIT:Hid (¬ (255 < ([s0,s1].set 1 (str T)).length∨512 < 20+(⟨#[]⟩:ByteArray).size+isz ([s0,s1].set 1 (str T)))):=by
    unfold Hid
    have e:[s0,s1].set 1 (str T)=[s0,str T]:=rfl
    have e0:(⟨#[]⟩:ByteArray).size=0:=rfl
    rw [e,isz_cons,isz_cons,isz_nil,str_size,e0]
    simp only [List.length_cons,List.length_nil]
    omega
  have HW:=hide (fun (W:World) (ho:Only (fun _=>False) w W)=>with_some W a 1 0 0 ⟨#[]⟩ B cp ao [s0,s1] 1 (str T) (hS.more ho) (Nat.zero_le _) (by rw [str_size]; omega) (by simp))
  obtain ⟨o,rfl,hc⟩:=hS.at_ (by simp)
  have hB:=hS.lt (by simp)
  have hc1:=hc 1 (by simp)
  simp only [List.getElem_cons_zero,List.getElem_cons_succ] at hc1
  have HC1:=hide hc1
  have hx1:=hx.1
  have hx2:=hx.2
  clear hc hc1 hS hO hI hm hx hT hTl hnb hsz hq hs0
  simp only [List.length_cons,List.length_nil,Nat.zero_add,Nat.reduceAdd] at HC HW
  go_enter Tryz.func20,Tryz.ntmps20
  go_wp2_with fail
  refine (HC.out _ HO.out).mono ?_
  rintro e w1 ⟨rfl,ho⟩
  have HO1:=hide (o2 HO.out ho)
  have HP1:=hide (HP.out.more ho)
  have HQ1:=hide (HQ.out.more ho)
  have c5:=HQ1.out.c5
  have d1:=(HO1.out.cell (p:=⟨B,o+1,none⟩) hB (fun h=>h)).trans HC1.out
  clear ho
  obtain ⟨w2,cap,hcv,hby,ho2⟩:=bytes_made w1 s1
  obtain ⟨g,hg⟩:=exq (w1.heap.size)
  rw [hg] at hcv hby
  have HBY:=hide hby
  have HG:=hide hg
  have HO2:=hide (o2 HO1.out ho2)
  have HP2:=hide (HP1.out.more ho2)
  have HQ2:=hide (HQ1.out.more ho2)
  have HW1:=hide HP1.out.lt
  clear hby hg ho2
  go_wp2_with fail
  have q:=HLY.out w2 g cap HBY.out
  rw [bl_len] at q
  refine q.mono ?_
  clear q
  rintro e w3 ⟨rfl,hby3,ho3⟩
  have HBY3:=hide hby3
  have HO3:Hid (Only (fun _=>False) w w3):=HO2.out.trans ho3 (fun i hi e=>by have:=HG.out; have:=HO1.out.size; omega)
  have HP3:Hid (Pag w3 (w.heap.size+1) (.int .i64 0) (.int .i64 0) (.int .i64 0) (.int .i64 0) (.string ⟨#[]⟩) (.slice none 0 0)):=HP2.out.kept ho3 (by have:=HG.out; have:=HW1.out; omega)
  have HQ3:Hid (Pag w3 w.heap.size (.int .i64 a) (.int .i64 1) (.int .i64 0) (.int .i64 0) (.string ⟨#[]⟩) (.slice (some ⟨B,o,none⟩) 2 cp)):=HQ2.out.kept ho3 (by have:=HG.out; have:=HW1.out; omega)
  clear hby3 ho3 c5 d1 hcv
  have hcb:=HBY3.out.back (cp:=cap)
  rw [HTL.out] at hcb
  obtain ⟨r0,r1,r2,r3,r4,r5,_,_,_,_,_,_,_⟩:=HQ3.out
  go_wp2_with fail
  refine (HW.out w3 HO3.out).mono ?_
  rintro e w4 H4
  obtain ⟨B4,ao4,cp4,rfl,hS4,hF4,ho4,hB4⟩:=H4.2 HFIT.out
  have HS4:=hide hS4
  have HF4:=hide hF4
  have HB4:Hid (w.heap.size+1 < B4):=by
    have:=hB4 (by simp)
    have:=HP3.out.lt
    unfold Hid
    omega
  have HO4:=hide (o2 HO3.out ho4)
  have HP4:=hide (HP3.out.more ho4)
  clear hS4 hF4 hB4 ho4 H4 hcb r0 r1 r2 r3 r4 r5
  obtain ⟨q0,q1,q2,q3,q4,q5,t0,t1,t2,t3,t4,t5,tl⟩:=HP4.out
  simp only [List.set_cons_succ,List.set_cons_zero,List.length_cons,List.length_nil,Nat.zero_add,Nat.reduceAdd] at HS4 HF4 ⊢
  go_wp2_with fail
  refine bodyPost_ret (results_page rfl rfl (Pag.six HP4.out _ _ _ _ _ _)) rfl ?_
  exact res_end (by omega) ⟨a,1,0,0,⟨#[]⟩,[s0,str T]⟩ HS4.out HF4.out HO4.out (fun _=>HB4.out) 0 _ _ _ _ _ _
theorem Strs.two (w:World) (s t:ByteArray) (hs:s.size≤140737488355328) (ht:t.size≤140737488355328):Strs (w.alloc (.cells #[.string s,.string t] 9)) w.heap.size (some ⟨w.heap.size,0,none⟩) [s,t] :=
  ⟨fun _=>⟨0,rfl,fun j hj=>by
    have hj2:j=0∨j=1:=by simp at hj; omega
    rcases hj2 with rfl | rfl <;> simp⟩,fun _=>by simp,by simp,fun u hu=>by
    simp at hu
    rcases hu with rfl | rfl
    · exact hs
    · exact ht⟩
theorem repeat_any (c:Nat) (hc:c≤512) (W:World) :
    Calls Tryz.prog 39 #[.string ⟨#[0]⟩,.int .i64 (c:Int)] W fun e w'=>e=.returned (.string (str (List.replicate c 0)))∧Only (fun _=>False) W w':=by
  have e1:(⟨#[0]⟩:ByteArray).size=1:=rfl
  have h1:=Tryz.strings_Repeat ⟨#[0]⟩ c W (by omega) (by rw [e1]; omega)
  refine Calls.mono h1 ?_
  rintro e w' ⟨rfl,hb⟩
  refine ⟨?_,only_below hb⟩
  rw [rep_zero]
  rfl
theorem Pag.zero (w:World):Pag (w.alloc (.cells #[.int .i64 0,.int .i64 0,.int .i64 0,.int .i64 0,.string ⟨#[]⟩,.slice none 0 0] 37)) w.heap.size (.int .i64 0) (.int .i64 0) (.int .i64 0) (.int .i64 0) (.string ⟨#[]⟩) (.slice none 0 0):=Pag.new w _ _ _ _ _ _
set_option maxHeartbeats 800000 in
theorem cblank_ok (w:World) (m f:Int) (hI:Idd m f) :
    Calls Tryz.prog 19 #[.int .i64 m,.int .i64 f] w fun e w'=>Res w w' e (blankP m f) 0:=by
  have hm:I64 m:=⟨by have:=hI.1.1; omega,by have:=hI.1.2.1; omega⟩
  have hx:I64 f:=⟨by have:=hI.2; omega,by have:=hI.2; have:=hI.1.2.1; omega⟩
  have HI:=hide (fun W=>cisID_any m f W hm hx)
  simp only [decide_eq_true hI] at HI
  have HL:=hide (fun W=>laidLimit_any f W (by have:=hI.2; omega) (by have:=hI.2; have:=hI.1.2.1; omega))
  have HB:=hide (fun W=>statusBytes_any m W hI.1)
  have hn:=(nb_bd hI.1).2.1
  have HR:=hide (fun W=>repeat_any (nb m) (by omega) W)
  have HP:=hide (Pag.zero w)
  have HO:=hide (onlyA w (.cells #[.int .i64 0,.int .i64 0,.int .i64 0,.int .i64 0,.string ⟨#[]⟩,.slice none 0 0] 37))
  have hm1:=hm.1
  have hm2:=hm.2
  have hf1:=hx.1
  have hf2:=hx.2
  have hse:(sev f.toNat).length≤10:=sevF_len 9 _
  unfold blankP
  obtain ⟨n,hnn⟩:=exq (nb m)
  simp only [hnn] at HB HR hn
  rw [hnn]
  obtain ⟨S,hS⟩:=exq (str (sev f.toNat))
  obtain ⟨Z,hZ⟩:=exq (str (List.replicate n 0))
  have HS:Hid (S.size≤140737488355328):=by unfold Hid; rw [← hS,str_size]; omega
  have HZ:Hid (Z.size≤140737488355328):=by unfold Hid; rw [← hZ,str_size,List.length_replicate]; omega
  simp only [hS] at HL
  simp only [hZ] at HR
  rw [hS,hZ]
  clear hI hm hx hnn hS hZ hse
  go_enter Tryz.func19,Tryz.ntmps19
  go_wp2_with fail
  refine (HI.out _).mono ?_
  rintro e w1 ⟨rfl,hw⟩
  obtain rfl:=hw.symm
  clear hw
  go_wp2_with fail
  refine (HL.out _).mono ?_
  rintro e w2 ⟨rfl,ho2⟩
  have HO2:=hide (o2 HO.out ho2)
  have HP2:=hide (HP.out.more ho2)
  clear ho2
  go_wp2_with fail
  refine (HB.out _).mono ?_
  rintro e w1 ⟨rfl,hw⟩
  obtain rfl:=hw.symm
  clear hw
  go_wp2_with fail
  refine (HR.out _).mono ?_
  rintro e w3 ⟨rfl,ho3⟩
  have HO3:=hide (o2 HO2.out ho3)
  have HP3:=hide (HP2.out.more ho3)
  clear ho3
  have HP4:=hide (HP3.out.more (onlyA w3 (.cells #[.string S,.string Z] 9)))
  have HO4:=hide (o2 HO3.out (onlyA w3 (.cells #[.string S,.string Z] 9)))
  have HS4:=hide (Strs.two w3 S Z HS.out HZ.out)
  have hlt:=HP3.out.lt
  go_upto_region 4 with fail
  obtain ⟨g,hg⟩:=exq (w3.heap.size)
  obtain ⟨w4,hw4⟩:=exq (w3.alloc (.cells #[.string S,.string Z] 9))
  rw [hw4] at HP4 HO4 HS4 ⊢
  rw [hg] at HS4 hlt ⊢
  clear hw4 hg HP3 HO3
  obtain ⟨q0,q1,q2,q3,q4,q5,t0,t1,t2,t3,t4,t5,tl⟩:=HP4.out
  go_wp2_with fail
  refine bodyPost_ret (results_page rfl rfl (Pag.six HP4.out _ _ _ _ _ _)) rfl ?_
  exact res_end (cp:=2) (Nat.le_refl _) ⟨0,1,0,0,⟨#[]⟩,[S,Z]⟩ HS4.out ⟨(fun h=>by cases h),Nat.le_refl _,(by unfold maxLen; omega)⟩ HO4.out (fun _=>hlt) 0 _ _ _ _ _ _
end Go.Proofs.YtajjakljheafjaaGreat
namespace Go.Proofs.YtajjakljheafjaaGreat
open Go.RowKit
theorem id16 {x:Int} (h1:1≤x) (h2:x≤16):Idd 16 x:=⟨⟨by omega,by omega,by decide⟩,h1,h2⟩
end Go.Proofs.YtajjakljheafjaaGreat
