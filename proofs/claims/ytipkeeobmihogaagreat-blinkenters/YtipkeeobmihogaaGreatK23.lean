/- Parts. -/
import Derived.Deep.MidRow
import Derived.Laws.Tables
import Derived.Test.YtipkeeobmihogaaGreatK17
import Derived.Deep.QuietTactic
import Derived.BigQuiet
import Derived.Laws.StructEq
import Derived.ProofKit
import Derived.OpenShut
import Derived.ShutString
import Derived.SizedLaws
import Derived.Deep.Strs
set_option maxRecDepth 100000
namespace Go.Proofs.YtipkeeobmihogaaGreat
open Go.RowKit
structure Rg (w:World) (b o:Nat) (cs:List Value):Prop where
  range:w.rangeAt b o cs
  there:w.there b o cs.length
  lt:b < w.heap.size
theorem only_setCells (b:Nat) (vs:List Value) (o:Nat) (w:World):Only (fun k=>k=b) w (w.setCells b o vs):=by
  induction vs generalizing o w with
  | nil=>exact Only.refl _ _
  | cons v r ih=>
    rw [World.setCells]
    exact (Only.setCell (S:=fun k=>k=b) w ⟨b,o,none⟩ v rfl).trans (ih (o+1) _) (fun _ _ h=>h)
theorem setCells_size (b:Nat) (vs:List Value) (o:Nat) (w:World):(w.setCells b o vs).heap.size=w.heap.size:=by
  induction vs generalizing o w with
  | nil=>rfl
  | cons v r ih=>rw [World.setCells,ih]; simp
theorem setCells_frozen (b:Nat) (vs:List Value) (o:Nat) (w:World) (p:Addr):(w.setCells b o vs).frozen? p=w.frozen? p:=by
  induction vs generalizing o w with
  | nil=>rfl
  | cons v r ih=>rw [World.setCells,ih]; simp
theorem Rg.new (w:World) (cs:Array Value) (t:TypeId):Rg (w.alloc (.cells cs t)) w.heap.size 0 cs.toList :=
  ⟨fun j v hv=>by rw [Nat.zero_add]; simpa using hv,fun j hj=>by rw [Nat.zero_add]; exact ⟨by simpa using hj,by simp⟩,by simp⟩
theorem Rg.kept {S:Nat→Prop} {w w':World} {b o:Nat} {cs:List Value} (h:Rg w b o cs) (ho:Only S w w') (hS:¬ S b):Rg w' b o cs :=
  ⟨fun j v hv=>(ho.cell (p:=⟨b,o+j,none⟩) h.lt hS).trans (h.range j v hv),fun j hj=>by
    obtain ⟨h1,h2⟩:=h.there j hj
    exact ⟨by rw [ho.cell (p:=⟨b,o+j,none⟩) h.lt hS]; exact h1,by rw [ho.frozen (p:=⟨b,o+j,none⟩) h.lt hS]; exact h2⟩,Nat.lt_of_lt_of_le h.lt ho.size⟩
theorem Rg.more {w w':World} {b o:Nat} {cs:List Value} (h:Rg w b o cs) (ho:Only (fun _=>False) w w'):Rg w' b o cs:=h.kept ho (fun h=>h)
theorem Rg.cell {w:World} {b o:Nat} {cs:List Value} (h:Rg w b o cs) (j:Nat) (v:Value) (hv:cs[j]?=some v):w.cell? ⟨b,o+j,none⟩=some v:=h.range j v hv
theorem Rg.fr {w:World} {b o:Nat} {cs:List Value} (h:Rg w b o cs) (j:Nat) (hj:j < cs.length):w.frozen? ⟨b,o+j,none⟩=false:=(h.there j hj).2
theorem Rg.part {w:World} {b o:Nat} {c1 c2 c3:List Value} (h:Rg w b o (c1++c2++c3)):Rg w b (o+c1.length) c2:=by
  refine ⟨fun j v hv=>?_,fun j hj=>?_,h.lt⟩
  · have hj:j < c2.length:=(List.getElem?_eq_some_iff.1 hv).1
    have:=h.range (c1.length+j) v (by rw [List.append_assoc,List.getElem?_append_right (by omega),Nat.add_sub_cancel_left,List.getElem?_append_left hj]; exact hv)
    rwa [← Nat.add_assoc] at this
  · have:=h.there (c1.length+j) (by simp only [List.length_append]; omega)
    rwa [← Nat.add_assoc] at this
theorem Rg.set {w:World} {b o:Nat} {cs:List Value} (h:Rg w b o cs) (ds:List Value) (hl:ds.length=cs.length):Rg (w.setCells b o ds) b o ds:=by
  have hr:=World.rangeAt_setCells_same w b o ds (by rw [hl]; exact h.there)
  refine ⟨hr,fun j hj=>?_,by rw [setCells_size]; exact h.lt⟩
  exact ⟨by rw [hr j _ (List.getElem?_eq_getElem hj)]; rfl,by rw [setCells_frozen]; exact (h.there j (by omega)).2⟩
structure Br where
  kind:Int
  page:Int
  data:ByteArray
  ia:Option Addr
  il:Nat
  ic:Nat
abbrev Br.none:Br:=⟨0,0,⟨#[]⟩,Option.none,0,0⟩
abbrev Br.cells (r:Br):Array Value :=
  #[.int .i64 0,.int .i64 0,.int .i64 0,.int .u8 r.kind,.int .i64 0,.int .i64 r.page,.int .i64 0,.int .i64 0,.int .i64 0,.int .i64 0,.string r.data,
    .slice Option.none 0 0,.slice Option.none 0 0,.slice r.ia r.il r.ic,.slice Option.none 0 0,.slice Option.none 0 0]
def Br.cl (r:Br):List Value:=r.cells.toList
theorem Tryz.sizeRecB:(Tryz.prog.info? 36).map (·.size)=some 16:=by kernel_rfl
structure StR (w W:World) (b o:Nat) (ds:List Value):Prop where
  eq:W=w.setCells b o ds
  only:Only (fun k=>k=b) w W
  at_:Rg W b o ds
section
variable {ops:Array Oper} {rest:List Oper} {o:Oper} {a:Act} {w:World} {Q:Exit→Act→World→Prop}
theorem wpList_put_br (hg:o.guard=none) (x y:Operand) (hop:o.op=.store 36 x y) (b:Nat) (hx:a.eval x=.pointer (some ⟨b,0,none⟩)) (cs:List Value) (hl:cs.length=16) (r:Br) (hy:a.eval y=.agg r.cells) (hc:Rg w b 0 cs)
    (h:∀ W,Hid (StR w W b 0 r.cl)→wpList Tryz.prog ops Q rest (a.put o.dst undef) W):wpList Tryz.prog ops Q (o :: rest) a w :=
  wpList_store_mid hg 36 x y hop b 0 r.cells hx hy (by have:=hc.there; rwa [hl] at this) Tryz.sizeRecB (by simp [Value.oneCell']) (h _ ⟨rfl,only_setCells _ _ _ _,hc.set _ (by rw [hl]; rfl)⟩)
theorem wpList_load_br (hg:o.guard=none) (x:Operand) (hop:o.op=.load 36 x) (b:Nat) (hx:a.eval x=.pointer (some ⟨b,0,none⟩)) (r:Br) (hc:Rg w b 0 r.cl)
    (h:wpList Tryz.prog ops Q rest (a.put o.dst (.agg r.cells)) w):wpList Tryz.prog ops Q (o :: rest) a w :=
  wpList_load_mid hg 36 x hop b 0 hx r.cl _ hc.range Tryz.underlying36 rfl Tryz.sizeRecB h
end
theorem run_build_bnone (w:World):(Instr.build 36 #[]).run Tryz.prog w=.ok (.agg Br.none.cells) w:=run_build w 36 #[] _ (by kernel_rfl)
theorem run_build_in (w:World) (p:Int) (d:ByteArray):(Instr.build 36 #[(3,.int .u8 3),(5,.int .i64 p),(10,.string d)]).run Tryz.prog w=.ok (.agg (Br.cells ⟨3,p,d,Option.none,0,0⟩)) w:=run_build w 36 _ _ (by kernel_rfl)
theorem run_build_split (w:World) (ia:Option Addr) (il ic:Nat):(Instr.build 36 #[(3,.int .u8 5),(13,.slice ia il ic)]).run Tryz.prog w=.ok (.agg (Br.cells ⟨5,0,⟨#[]⟩,ia,il,ic⟩)) w:=run_build w 36 _ _ (by kernel_rfl)
section
variable {ops:Array Oper} {rest:List Oper} {o:Oper} {a:Act} {w:World} {Q:Exit→Act→World→Prop}
theorem wpList_build_bnone (hg:o.guard=none) (hop:o.op=.build 36 #[]) (h:wpList Tryz.prog ops Q rest (a.put o.dst (.agg Br.none.cells)) w):wpList Tryz.prog ops Q (o :: rest) a w:=by
  refine wpList_plain hg fun K hK=>?_
  unfold Oper.wp execOp
  simp only [hop,Array.map_empty,Sem.run_bind,Sem.run_pure,Result.andThen_ok,run_build_bnone]
  exact hK _ _ h
theorem wpList_build_in (hg:o.guard=none) (a5 a10:Operand) (hop:o.op=.build 36 #[(3,.const (.int .u8 3)),(5,a5),(10,a10)]) (p:Int) (d:ByteArray) (h5:a.eval a5=.int .i64 p) (h10:a.eval a10=.string d)
    (h:wpList Tryz.prog ops Q rest (a.put o.dst (.agg (Br.cells ⟨3,p,d,Option.none,0,0⟩))) w):wpList Tryz.prog ops Q (o :: rest) a w:=by
  refine wpList_plain hg fun K hK=>?_
  unfold Oper.wp execOp
  have e:(#[(3,Operand.const (.int .u8 3)),(5,a5),(10,a10)]:Array (Nat × Operand)).map (fun x=>(x.1,a.eval x.2))=#[(3,.int .u8 3),(5,.int .i64 p),(10,.string d)]:=by
    simp only [List.map_toArray,List.map_cons,List.map_nil,h5,h10]
    rfl
  simp only [hop,e,Sem.run_bind,Sem.run_pure,Result.andThen_ok,run_build_in]
  exact hK _ _ h
theorem wpList_build_split (hg:o.guard=none) (a13:Operand) (hop:o.op=.build 36 #[(3,.const (.int .u8 5)),(13,a13)]) (ia:Option Addr) (il ic:Nat) (h13:a.eval a13=.slice ia il ic)
    (h:wpList Tryz.prog ops Q rest (a.put o.dst (.agg (Br.cells ⟨5,0,⟨#[]⟩,ia,il,ic⟩))) w):wpList Tryz.prog ops Q (o :: rest) a w:=by
  refine wpList_plain hg fun K hK=>?_
  unfold Oper.wp execOp
  have e:(#[(3,Operand.const (.int .u8 5)),(13,a13)]:Array (Nat × Operand)).map (fun x=>(x.1,a.eval x.2))=#[(3,.int .u8 5),(13,.slice ia il ic)]:=by
    simp only [List.map_toArray,List.map_cons,List.map_nil,h13]
    rfl
  simp only [hop,e,Sem.run_bind,Sem.run_pure,Result.andThen_ok,run_build_split]
  exact hK _ _ h
end
theorem load_br {w:World} {b:Nat} {r:Br} (h:Rg w b 0 r.cl):(loadVar 36 ⟨b,0,none⟩).run Tryz.prog w=.ok (.agg r.cells) w :=
  run_loadVar_mid (P:=Tryz.prog) w b 0 36 r.cl _ h.range Tryz.underlying36 rfl Tryz.sizeRecB
theorem results_br {fn:Func} {p u:Tmp} (h:fn.results=#[.cell p 36,.tmp u]) {tmps:Array Value} {w:World} {b:Nat} {r:Br} (hp:tmps.getD p undef=.pointer (some ⟨b,0,none⟩)) (hP:Rg w b 0 r.cl) :
    (results fn tmps).run Tryz.prog w=.ok (.tuple #[.agg r.cells,tmps.getD u undef]) w:=by
  have e:(asAddr (.pointer (some ⟨b,0,none⟩))).run Tryz.prog w=.ok ⟨b,0,none⟩ w:=rfl
  rw [results_cell_tmp h,hp,e]
  simp only [Result.andThen,load_br hP]
structure Im where
  page:Int
  body:Pg
structure Rc where
  lsn:Int
  prev:Int
  next:Int
  kind:Int
  xid:Int
  page:Int
  slot:Int
  old:Int
  new:Int
  redo:Int
  data:ByteArray
  slots:List Int
  more:List Int
  images:List Im
  pages:List (Int × Int)
  txns:List (Int × Int)
structure Zs (w:World) (B:Nat) (ao:Option Addr) (l:List Int):Prop where
  at_:0 < l.length→∃ o,ao=some ⟨B,o,none⟩∧∀ j (h:j < l.length),w.cell? ⟨B,o+j,none⟩=some (.int .i64 l[j])
  lt:0 < l.length→B < w.heap.size
  len:l.length≤17592186043904
theorem Zs.nil (w:World) (B:Nat) (ao:Option Addr):Zs w B ao []:=⟨fun h=>absurd h (by simp),fun h=>absurd h (by simp),by simp⟩
theorem Zs.kept {S:Nat→Prop} {w w':World} {B:Nat} {ao:Option Addr} {l:List Int} (h:Zs w B ao l) (ho:Only S w w') (hS:0 < l.length→¬ S B):Zs w' B ao l :=
  ⟨fun h0=>by
    obtain ⟨o,e,hc⟩:=h.at_ h0
    exact ⟨o,e,fun j hj=>(ho.cell (p:=⟨B,o+j,none⟩) (h.lt h0) (hS h0)).trans (hc j hj)⟩,fun h0=>Nat.lt_of_lt_of_le (h.lt h0) ho.size,h.len⟩
structure Prs (w:World) (B:Nat) (ao:Option Addr) (l:List (Int × Int)):Prop where
  at_:0 < l.length→∃ o,ao=some ⟨B,o,none⟩∧∀ j (h:j < l.length),w.cell? ⟨B,o+j * 2,none⟩=some (.int .i64 l[j].1)∧w.cell? ⟨B,o+j * 2+1,none⟩=some (.int .i64 l[j].2)
  lt:0 < l.length→B < w.heap.size
  len:l.length≤17592186043904
theorem Prs.nil (w:World) (B:Nat) (ao:Option Addr):Prs w B ao []:=⟨fun h=>absurd h (by simp),fun h=>absurd h (by simp),by simp⟩
theorem Prs.kept {S:Nat→Prop} {w w':World} {B:Nat} {ao:Option Addr} {l:List (Int × Int)} (h:Prs w B ao l) (ho:Only S w w') (hS:0 < l.length→¬ S B):Prs w' B ao l :=
  ⟨fun h0=>by
    obtain ⟨o,e,hc⟩:=h.at_ h0
    exact ⟨o,e,fun j hj=>⟨(ho.cell (p:=⟨B,o+j * 2,none⟩) (h.lt h0) (hS h0)).trans (hc j hj).1,(ho.cell (p:=⟨B,o+j * 2+1,none⟩) (h.lt h0) (hS h0)).trans (hc j hj).2⟩⟩,fun h0=>Nat.lt_of_lt_of_le (h.lt h0) ho.size,h.len⟩
structure ImAt (w:World) (B k:Nat) (i:Im) (D:Nat) (ao:Option Addr) (cp:Nat):Prop where
  c0:w.cell? ⟨B,k,none⟩=some (.int .i64 i.page)
  c1:w.cell? ⟨B,k+1,none⟩=some (.int .i64 i.body.lsn)
  c2:w.cell? ⟨B,k+2,none⟩=some (.int .i64 i.body.kind)
  c3:w.cell? ⟨B,k+3,none⟩=some (.int .i64 i.body.level)
  c4:w.cell? ⟨B,k+4,none⟩=some (.int .i64 i.body.right)
  c5:w.cell? ⟨B,k+5,none⟩=some (.string i.body.high)
  c6:w.cell? ⟨B,k+6,none⟩=some (.slice ao i.body.items.length cp)
  strs:Strs w D ao i.body.items
  fit:Fit ao i.body.items.length cp
  high:i.body.high.size≤140737488355328
  lsn:i.body.lsn < 9223372036854775808
theorem ImAt.kept {S:Nat→Prop} {w w':World} {B k:Nat} {i:Im} {D:Nat} {ao:Option Addr} {cp:Nat} (h:ImAt w B k i D ao cp) (hB:B < w.heap.size) (ho:Only S w w') (hS:¬ S B) (hD:0 < i.body.items.length→¬ S D):ImAt w' B k i D ao cp :=
  ⟨(ho.cell (p:=⟨B,k,none⟩) hB hS).trans h.c0,(ho.cell (p:=⟨B,k+1,none⟩) hB hS).trans h.c1,(ho.cell (p:=⟨B,k+2,none⟩) hB hS).trans h.c2,(ho.cell (p:=⟨B,k+3,none⟩) hB hS).trans h.c3,(ho.cell (p:=⟨B,k+4,none⟩) hB hS).trans h.c4,(ho.cell (p:=⟨B,k+5,none⟩) hB hS).trans h.c5,(ho.cell (p:=⟨B,k+6,none⟩) hB hS).trans h.c6,h.strs.kept ho hD,h.fit,h.high,h.lsn⟩
structure Ims (w:World) (T:Nat→Prop) (B:Nat) (ao:Option Addr) (l:List Im):Prop where
  at_:0 < l.length→∃ o,ao=some ⟨B,o,none⟩∧∀ j (h:j < l.length),∃ D a c,ImAt w B (o+j * 7) l[j] D a c∧(0 < l[j].body.items.length→T D)
  lt:0 < l.length→B < w.heap.size
  len:l.length≤17592186043904
theorem Ims.nil (w:World) (T:Nat→Prop) (B:Nat) (ao:Option Addr):Ims w T B ao []:=⟨fun h=>absurd h (by simp),fun h=>absurd h (by simp),by simp⟩
theorem Ims.kept {S T:Nat→Prop} {w w':World} {B:Nat} {ao:Option Addr} {l:List Im} (h:Ims w T B ao l) (ho:Only S w w') (hS:0 < l.length→¬ S B) (hT:∀ d,T d→¬ S d):Ims w' T B ao l :=
  ⟨fun h0=>by
    obtain ⟨o,e,hc⟩:=h.at_ h0
    refine ⟨o,e,fun j hj=>?_⟩
    obtain ⟨D,a,c,hi,hD⟩:=hc j hj
    exact ⟨D,a,c,hi.kept (h.lt h0) ho (hS h0) (fun h1=>hT D (hD h1)),hD⟩,fun h0=>Nat.lt_of_lt_of_le (h.lt h0) ho.size,h.len⟩
theorem Zs.more {w w':World} {B:Nat} {ao:Option Addr} {l:List Int} (h:Zs w B ao l) (ho:Only (fun _=>False) w w'):Zs w' B ao l:=h.kept ho (fun _ h=>h)
theorem Prs.more {w w':World} {B:Nat} {ao:Option Addr} {l:List (Int × Int)} (h:Prs w B ao l) (ho:Only (fun _=>False) w w'):Prs w' B ao l:=h.kept ho (fun _ h=>h)
theorem Ims.more {w w':World} {T:Nat→Prop} {B:Nat} {ao:Option Addr} {l:List Im} (h:Ims w T B ao l) (ho:Only (fun _=>False) w w'):Ims w' T B ao l:=h.kept ho (fun _ h=>h) (fun _ _ h=>h)
structure Loc where
  a1:Option Addr
  a2:Option Addr
  a3:Option Addr
  a4:Option Addr
  a5:Option Addr
  c1:Nat
  c2:Nat
  c3:Nat
  c4:Nat
  c5:Nat
  b1:Nat
  b2:Nat
  b3:Nat
  b4:Nat
  b5:Nat
abbrev Rc.cells (r:Rc) (L:Loc):Array Value :=
  #[.int .i64 r.lsn,.int .i64 r.prev,.int .i64 r.next,.int .u8 r.kind,.int .i64 r.xid,.int .i64 r.page,.int .i64 r.slot,.int .i64 r.old,.int .i64 r.new,.int .i64 r.redo,.string r.data,
    .slice L.a1 r.slots.length L.c1,.slice L.a2 r.more.length L.c2,.slice L.a3 r.images.length L.c3,.slice L.a4 r.pages.length L.c4,.slice L.a5 r.txns.length L.c5]
structure RcAt (w:World) (r:Rc) (L:Loc):Prop where
  slots:Zs w L.b1 L.a1 r.slots
  more:Zs w L.b2 L.a2 r.more
  images:∃ T,Ims w T L.b3 L.a3 r.images
  pages:Prs w L.b4 L.a4 r.pages
  txns:Prs w L.b5 L.a5 r.txns
  f1:Fit L.a1 r.slots.length L.c1
  f2:Fit L.a2 r.more.length L.c2
  data:r.data.size≤140737488355328
  kind:0≤r.kind∧r.kind≤255
theorem RcAt.go {w w':World} {r:Rc} {L:Loc} (h:RcAt w r L) (ho:Only (fun _=>False) w w'):RcAt w' r L:=by
  obtain ⟨T,hi⟩:=h.images
  exact ⟨h.slots.more ho,h.more.more ho,⟨T,hi.more ho⟩,h.pages.more ho,h.txns.more ho,h.f1,h.f2,h.data,h.kind⟩
structure Bx (w:World) (b:Nat) (r:Rc) (L:Loc):Prop where
  c0:w.cell? ⟨b,0,none⟩=some (.int .i64 r.lsn)
  c1:w.cell? ⟨b,1,none⟩=some (.int .i64 r.prev)
  c2:w.cell? ⟨b,2,none⟩=some (.int .i64 r.next)
  c3:w.cell? ⟨b,3,none⟩=some (.int .u8 r.kind)
  c4:w.cell? ⟨b,4,none⟩=some (.int .i64 r.xid)
  c5:w.cell? ⟨b,5,none⟩=some (.int .i64 r.page)
  c6:w.cell? ⟨b,6,none⟩=some (.int .i64 r.slot)
  c7:w.cell? ⟨b,7,none⟩=some (.int .i64 r.old)
  c8:w.cell? ⟨b,8,none⟩=some (.int .i64 r.new)
  c9:w.cell? ⟨b,9,none⟩=some (.int .i64 r.redo)
  c10:w.cell? ⟨b,10,none⟩=some (.string r.data)
  c11:w.cell? ⟨b,11,none⟩=some (.slice L.a1 r.slots.length L.c1)
  c12:w.cell? ⟨b,12,none⟩=some (.slice L.a2 r.more.length L.c2)
  c13:w.cell? ⟨b,13,none⟩=some (.slice L.a3 r.images.length L.c3)
  c14:w.cell? ⟨b,14,none⟩=some (.slice L.a4 r.pages.length L.c4)
  c15:w.cell? ⟨b,15,none⟩=some (.slice L.a5 r.txns.length L.c5)
  lt:b < w.heap.size
theorem Bx.new (w:World) (r:Rc) (L:Loc):Bx (w.alloc (.cells (r.cells L) 36)) w.heap.size r L :=
  ⟨by simp,by simp,by simp,by simp,by simp,by simp,by simp,by simp,by simp,by simp,by simp,by simp,by simp,by simp,by simp,by simp,by simp⟩
theorem Bx.kept {S:Nat→Prop} {w w':World} {b:Nat} {r:Rc} {L:Loc} (h:Bx w b r L) (ho:Only S w w') (hS:¬ S b):Bx w' b r L:=by
  have k:∀ (j:Nat) (v:Value),w.cell? ⟨b,j,none⟩=some v→w'.cell? ⟨b,j,none⟩=some v:=fun j v hj=>(ho.cell (p:=⟨b,j,none⟩) h.lt hS).trans hj
  exact ⟨k _ _ h.c0,k _ _ h.c1,k _ _ h.c2,k _ _ h.c3,k _ _ h.c4,k _ _ h.c5,k _ _ h.c6,k _ _ h.c7,k _ _ h.c8,k _ _ h.c9,k _ _ h.c10,k _ _ h.c11,k _ _ h.c12,k _ _ h.c13,k _ _ h.c14,k _ _ h.c15,Nat.lt_of_lt_of_le h.lt ho.size⟩
theorem Bx.more {w w':World} {b:Nat} {r:Rc} {L:Loc} (h:Bx w b r L) (ho:Only (fun _=>False) w w'):Bx w' b r L:=h.kept ho (fun h=>h)
structure RB (e:Ending) (P:Prop):Prop where
  ex:∃ c,e=.returned (.bool c)∧(c=true ↔ P)
theorem RB.yes {P:Prop} (h:P):RB (.returned (.bool true)) P:=⟨true,rfl,⟨fun _=>h,fun _=>rfl⟩⟩
theorem RB.no {P:Prop} (h:¬ P):RB (.returned (.bool false)) P:=⟨false,rfl,⟨fun h=>(by cases h),fun p=>absurd p h⟩⟩
end Go.Proofs.YtipkeeobmihogaaGreat
namespace Go.Proofs.YtipkeeobmihogaaGreat
open Go.RowKit
theorem im_ext {i i':Im} (h1:i.page=i'.page) (h2:i.body.lsn=i'.body.lsn∧i.body.kind=i'.body.kind∧i.body.level=i'.body.level∧i.body.right=i'.body.right∧i.body.high=i'.body.high∧i.body.items=i'.body.items):i=i':=by
  obtain ⟨p,⟨a,b,c,d,e,f⟩⟩:=i
  obtain ⟨p',⟨a',b',c',d',e',f'⟩⟩:=i'
  simp only at h1 h2
  obtain ⟨rfl,rfl,rfl,rfl,rfl,rfl⟩:=h2
  subst h1
  rfl
theorem rc_ext {a b:Rc} (h0:a.lsn=b.lsn) (h1:a.prev=b.prev) (h2:a.next=b.next) (h3:a.kind=b.kind) (h4:a.xid=b.xid) (h5:a.page=b.page) (h6:a.slot=b.slot) (h7:a.old=b.old) (h8:a.new=b.new) (h9:a.redo=b.redo) (h10:a.data=b.data) (h11:a.slots=b.slots) (h12:a.more=b.more) (h13:a.images=b.images) (h14:a.pages=b.pages) (h15:a.txns=b.txns):a=b:=by
  obtain ⟨_,_,_,_,_,_,_,_,_,_,_,_,_,_,_,_⟩:=a
  obtain ⟨_,_,_,_,_,_,_,_,_,_,_,_,_,_,_,_⟩:=b
  simp only at h0 h1 h2 h3 h4 h5 h6 h7 h8 h9 h10 h11 h12 h13 h14 h15
  subst h0 h1 h2 h3 h4 h5 h6 h7 h8 h9 h10 h11 h12 h13 h14 h15
  rfl
theorem two_boxes (w:World) (a b:Rc) (L M:Loc):∃ W,(w.alloc (.cells (a.cells L) 36)).alloc (.cells (b.cells M) 36)=W∧Bx W w.heap.size a L∧Bx W (w.heap.size+1) b M∧Only (fun _=>False) w W:=by
  refine ⟨_,rfl,(Bx.new w a L).more (onlyA _ _),?_,o2 (onlyA _ _) (onlyA _ _)⟩
  have h:=Bx.new (w.alloc (.cells (a.cells L) 36)) b M
  simpa using h
end Go.Proofs.YtipkeeobmihogaaGreat
namespace Go.Proofs.YtipkeeobmihogaaGreat
open Go.ChangeShapes Go.WideShapes Go.ChangeAt Go.RowKit Go.Deep
theorem Tryz.laidOut:laidOutB Tryz.prog=true:=by kernel_rfl
theorem Tryz.cellsInt:Tryz.prog.cellsOf 3=1:=by kernel_rfl
theorem Tryz.cellsStr:Tryz.prog.cellsOf 9=1:=by kernel_rfl
theorem Tryz.cellsStrs:Tryz.prog.cellsOf 22=1:=by kernel_rfl
theorem Tryz.bytesStr:Tryz.prog.bytesOf 9=16:=by kernel_rfl
theorem cell_spot {w:World} {a:Addr} {v:Value} (h:w.cell? a=some v):a=⟨a.block,a.off,none⟩:=by
  obtain ⟨b,o,s⟩:=a
  cases s with
  | none=>rfl
  | some q=>
    unfold World.cell? at h
    split at h
    · simp at h
    · simp at h
theorem weightsAll_mem {H:Type} {P:Program} {e:TypeId} {d:DataW H} {l:List (DataW H)} {n:Nat} (hd:d ∈ l) (hn:n ∈ d.weights P e):n ∈ DataW.weightsAll P e l:=by
  induction l with
  | nil=>cases hd
  | cons x t ih=>
    rw [DataW.weightsAll,List.mem_append]
    rcases List.mem_cons.1 hd with rfl | h
    · exact .inl hn
    · exact .inr (ih h)
structure PgIn (W:World) (v:Value) (a k u r:Int) (h:ByteArray) (B:Nat) (ao:Option Addr) (cp:Nat) (l:List ByteArray):Prop where
  val:v=.agg #[.int .i64 a,.int .i64 k,.int .i64 u,.int .i64 r,.string h,.slice ao l.length cp]
  a:-9223372036854775808≤a∧a < 9223372036854775808
  k:-9223372036854775808≤k∧k < 9223372036854775808
  u:-9223372036854775808≤u∧u < 9223372036854775808
  r:-9223372036854775808≤r∧r < 9223372036854775808
  high:h.size≤140737488355328
  strs:Strs W B ao l
  fit:Fit ao l.length cp
  len:l.length≤8796093021952
theorem strs_of_trod {H:Type} {enc:TypeId × Value→H} {W:World} {c:Value} {x:DataW H × List MemPlace} {n:Nat} (h:DataW.trod enc Tryz.prog W 0 (fun _=>true) true n 22 [c]=some x) (hw:∀ m ∈ x.1.weights Tryz.prog 22,m≤reachBytes) :
    ∃ (B:Nat) (ao:Option Addr) (cp:Nat) (l:List ByteArray),c=.slice ao l.length cp∧Strs W B ao l∧Fit ao l.length cp∧l.length≤8796093021952:=by
  rcases open_strs Tryz.underlying22 Tryz.underlying9 Tryz.cellsStr h with ⟨hcs,_⟩ | ⟨ad,len,cap,m,Sx,hcs,_,hl,hm,hmm,hx,hc⟩
  · simp at hcs
    subst hcs
    exact ⟨0,none,0,[],rfl,Strs.nil _ _ _,⟨fun _=>rfl,by simp,(by unfold maxLen; omega)⟩,by simp⟩
  · simp at hcs hmm
    subst hcs
    subst hmm
    rw [hx] at hw
    simp only [DataW.weights,Tryz.underlying22,Tryz.bytesStr] at hw
    have hwb:=hw ((((List.range len).map fun i=>DataW.lit (H:=H) (.string (Sx i).data.toList)).length+((List.range (m - len)).map fun j=>DataW.lit (H:=H) (.string (Sx (len+j)).data.toList)).length) * 16) (by simp)
    simp only [List.length_map,List.length_range] at hwb
    have hlen:((List.range len).map Sx).length=len:=by simp
    have hwr:reachBytes=140737488351232:=by decide
    refine ⟨ad.block,some ad,m,(List.range len).map Sx,by rw [hlen],⟨fun h0=>?_,fun h0=>?_,by rw [hlen]; omega,fun s hs=>?_⟩,⟨(fun h=>by cases h),(by rw [hlen]; exact hl),hm⟩,by rw [hlen]; omega⟩
    · rw [hlen] at h0
      have c0:=(hc 0 (by omega)).1
      have e0:ad.add 0=ad:=by unfold Addr.add; split <;> simp_all
      rw [e0] at c0
      have ha:=cell_spot c0
      refine ⟨ad.off,by rw [← ha],fun j hj=>?_⟩
      rw [hlen] at hj
      have cj:=(hc j (by omega)).1
      rw [ha,add_at] at cj
      rw [cj]
      simp
    · rw [hlen] at h0
      have c0:=(hc 0 (by omega)).1
      have e0:ad.add 0=ad:=by unfold Addr.add; split <;> simp_all
      rw [e0] at c0
      exact World.block_lt_of_cell? W _ c0
    · obtain ⟨i,hi,rfl⟩:=List.mem_map.1 hs
      have hmem:(DataW.lit (H:=H) (.string (Sx i).data.toList)) ∈ (List.range len).map fun i=>DataW.lit (H:=H) (.string (Sx i).data.toList):=List.mem_map.2 ⟨i,hi,rfl⟩
      have:=hw (Sx i).data.toList.length (by
        refine List.mem_cons_of_mem _ (List.mem_append.2 (.inl (weightsAll_mem hmem ?_)))
        simp [DataW.weights])
      rw [show (Sx i).data.toList.length=(Sx i).size from bl_len _] at this
      omega
theorem open_page {H:Type} {enc:TypeId × Value→H} {W:World} {base:Nat} {v:Value} {d:DataW H} {ps:List MemPlace} (hok:Value.okWide Tryz.prog W .any base 24 v) (h:DataW.Trod enc Tryz.prog W 0 (fun _=>true) true 24 v d ps)
    (hw:∀ m ∈ d.weights Tryz.prog 24,m≤reachBytes):∃ a k u r h B ao cp l,PgIn W v a k u r h B ao cp l:=by
  obtain ⟨cs,rfl,hs⟩:=okWide_struct Tryz.underlying24 hok
  obtain ⟨fuel,hf⟩:=h
  rw [Tryz.cellsPage] at hs
  obtain ⟨xs,n,_,hx,_,hlen,hfs⟩:=DataW.trod_struct Tryz.underlying24 hf
  obtain ⟨c0,c1,c2,c3,c4,c5,rfl⟩:∃ c0 c1 c2 c3 c4 c5,cs=#[c0,c1,c2,c3,c4,c5]:=by
    obtain ⟨l⟩:=cs
    match l,hs with
    | [c0,c1,c2,c3,c4,c5],_=>exact ⟨c0,c1,c2,c3,c4,c5,rfl⟩
  match xs,hlen with
  | [y0,y1,y2,y3,y4,y5],_=>
    simp only [Prod.mk.injEq] at hx
    have g0:=hfs 0 _ rfl
    have g1:=hfs 1 _ rfl
    have g2:=hfs 2 _ rfl
    have g3:=hfs 3 _ rfl
    have g4:=hfs 4 _ rfl
    have g5:=hfs 5 _ rfl
    simp [Value.cells,Tryz.cellsInt,Tryz.cellsStr,Tryz.cellsStrs] at g0 g1 g2 g3 g4 g5
    obtain ⟨a,e0,_,w0⟩:=DataW.trod_int Tryz.underlying3 g0
    obtain ⟨k,e1,_,w1⟩:=DataW.trod_int Tryz.underlying3 g1
    obtain ⟨u,e2,_,w2⟩:=DataW.trod_int Tryz.underlying3 g2
    obtain ⟨r,e3,_,w3⟩:=DataW.trod_int Tryz.underlying3 g3
    obtain ⟨h,e4,f4,_⟩:=DataW.trod_string Tryz.underlying9 g4
    simp at e0 e1 e2 e3 e4
    rw [hx.1] at hw
    simp only [DataW.weights,Tryz.underlying24] at hw
    have hw4:∀ m ∈ y4.1.weights Tryz.prog 9,m≤reachBytes:=fun m hm=>hw m (DataW.weights_mem_each (j:=4) (t:=9) (d:=y4.1) rfl rfl m hm)
    have hw5:∀ m ∈ y5.1.weights Tryz.prog 22,m≤reachBytes:=fun m hm=>hw m (DataW.weights_mem_each (j:=5) (t:=22) (d:=y5.1) rfl rfl m hm)
    obtain ⟨B,ao,cp,l,e5,hS,hF,hL⟩:=strs_of_trod g5 hw5
    have hwr:reachBytes=140737488351232:=by decide
    have hh:h.size≤140737488355328:=by
      rw [f4] at hw4
      have:=hw4 h.data.toList.length (by simp [DataW.weights])
      rw [show h.data.toList.length=h.size from bl_len _] at this
      omega
    have b0:=bounds_i64 w0
    have b1:=bounds_i64 w1
    have b2:=bounds_i64 w2
    have b3:=bounds_i64 w3
    exact ⟨a,k,u,r,h,B,ao,cp,l,⟨by rw [e0,e1,e2,e3,e4,e5],by omega,by omega,by omega,by omega,hh,hS,hF,hL⟩⟩
end Go.Proofs.YtipkeeobmihogaaGreat
