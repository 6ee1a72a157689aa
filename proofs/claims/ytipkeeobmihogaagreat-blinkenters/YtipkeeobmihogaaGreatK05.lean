/- Parts. -/
import Derived.Test.YtipkeeobmihogaaGreatK04
import Derived.Handy
import Derived.Laws.ResultCell
import Derived.Deep.RegionHeld3
import Derived.Deep.Draws
set_option maxRecDepth 100000
namespace Go.Proofs.YtipkeeobmihogaaGreat
open Go.RowKit
structure Strs (w:World) (B:Nat) (ao:Option Addr) (l:List ByteArray):Prop where
  at_:0 < l.length→∃ o,ao=some ⟨B,o,none⟩∧∀ j (h:j < l.length),w.cell? ⟨B,o+j,none⟩=some (.string l[j])
  lt:0 < l.length→B < w.heap.size
  len:l.length≤8796093022207
  size:∀ s ∈ l,s.size≤140737488355328
theorem Strs.nil (w:World) (B:Nat) (ao:Option Addr):Strs w B ao []:=⟨fun h=>absurd h (by simp),fun h=>absurd h (by simp),by simp,fun _ h=>by cases h⟩
theorem Strs.kept {S:Nat→Prop} {w w':World} {B:Nat} {ao:Option Addr} {l:List ByteArray} (h:Strs w B ao l) (ho:Only S w w') (hS:0 < l.length→¬ S B):Strs w' B ao l :=
  ⟨fun h0=>by
    obtain ⟨o,e,hc⟩:=h.at_ h0
    exact ⟨o,e,fun j hj=>(ho.cell (p:=⟨B,o+j,none⟩) (h.lt h0) (hS h0)).trans (hc j hj)⟩,fun h0=>Nat.lt_of_lt_of_le (h.lt h0) ho.size,h.len,h.size⟩
theorem Strs.more {w w':World} {B:Nat} {ao:Option Addr} {l:List ByteArray} (h:Strs w B ao l) (ho:Only (fun _=>False) w w'):Strs w' B ao l:=h.kept ho (fun _ h=>h)
theorem w64_w64 (a b:Int):wrap64 (wrap64 a+b)=wrap64 (a+b):=by unfold wrap64; omega
theorem w64_bd (a:Int):-9223372036854775808≤wrap64 a∧wrap64 a < 9223372036854775808:=by unfold wrap64; omega
theorem isz_le {l:List ByteArray} (h:∀ s ∈ l,s.size≤140737488355328):isz l≤140737488355330 * l.length:=by
  induction l with
  | nil=>simp [isz]
  | cons s l ih=>
    rw [isz_cons]
    have h1:=h s (by simp)
    have h2:=ih (fun t ht=>h t (by simp [ht]))
    simp only [List.length_cons]
    omega
theorem onlyA (w:World) (o:Obj):Only (fun _=>False) w (w.alloc o):=Only.alloc _ _ _
theorem o2 {a b c:World} (h:Only (fun _=>False) a b) (k:Only (fun _=>False) b c):Only (fun _=>False) a c:=h.trans k (fun _ _ h=>h)
theorem ret_bool {a b:Bool} (h:a=b):Ending.returned (.bool a)=.returned (.bool b):=by rw [h]
structure Pag (w:World) (b:Nat) (v0 v1 v2 v3 v4 v5:Value):Prop where
  c0:w.cell? ⟨b,0,none⟩=some v0
  c1:w.cell? ⟨b,1,none⟩=some v1
  c2:w.cell? ⟨b,2,none⟩=some v2
  c3:w.cell? ⟨b,3,none⟩=some v3
  c4:w.cell? ⟨b,4,none⟩=some v4
  c5:w.cell? ⟨b,5,none⟩=some v5
  f0:w.frozen? ⟨b,0,none⟩=false
  f1:w.frozen? ⟨b,1,none⟩=false
  f2:w.frozen? ⟨b,2,none⟩=false
  f3:w.frozen? ⟨b,3,none⟩=false
  f4:w.frozen? ⟨b,4,none⟩=false
  f5:w.frozen? ⟨b,5,none⟩=false
  lt:b < w.heap.size
theorem Pag.kept {S:Nat→Prop} {w w':World} {b:Nat} {v0 v1 v2 v3 v4 v5:Value} (h:Pag w b v0 v1 v2 v3 v4 v5) (ho:Only S w w') (hS:¬ S b):Pag w' b v0 v1 v2 v3 v4 v5 :=
  ⟨(ho.cell (p:=⟨b,0,none⟩) h.lt hS).trans h.c0,(ho.cell (p:=⟨b,1,none⟩) h.lt hS).trans h.c1,(ho.cell (p:=⟨b,2,none⟩) h.lt hS).trans h.c2,(ho.cell (p:=⟨b,3,none⟩) h.lt hS).trans h.c3,(ho.cell (p:=⟨b,4,none⟩) h.lt hS).trans h.c4,(ho.cell (p:=⟨b,5,none⟩) h.lt hS).trans h.c5,
   (ho.frozen (p:=⟨b,0,none⟩) h.lt hS).trans h.f0,(ho.frozen (p:=⟨b,1,none⟩) h.lt hS).trans h.f1,(ho.frozen (p:=⟨b,2,none⟩) h.lt hS).trans h.f2,(ho.frozen (p:=⟨b,3,none⟩) h.lt hS).trans h.f3,(ho.frozen (p:=⟨b,4,none⟩) h.lt hS).trans h.f4,(ho.frozen (p:=⟨b,5,none⟩) h.lt hS).trans h.f5,Nat.lt_of_lt_of_le h.lt ho.size⟩
theorem Pag.more {w w':World} {b:Nat} {v0 v1 v2 v3 v4 v5:Value} (h:Pag w b v0 v1 v2 v3 v4 v5) (ho:Only (fun _=>False) w w'):Pag w' b v0 v1 v2 v3 v4 v5:=h.kept ho (fun h=>h)
theorem Pag.new (w:World) (v0 v1 v2 v3 v4 v5:Value):Pag (w.alloc (.cells #[v0,v1,v2,v3,v4,v5] 24)) w.heap.size v0 v1 v2 v3 v4 v5 :=
  ⟨by simp,by simp,by simp,by simp,by simp,by simp,by simp,by simp,by simp,by simp,by simp,by simp,by simp⟩
theorem Only.six (w:World) (b:Nat) (v0 v1 v2 v3 v4 v5:Value):Only (fun k=>k=b) w ((((((w.setCell ⟨b,0,none⟩ v0).setCell ⟨b,1,none⟩ v1).setCell ⟨b,2,none⟩ v2).setCell ⟨b,3,none⟩ v3).setCell ⟨b,4,none⟩ v4).setCell ⟨b,5,none⟩ v5):=by
  have st:∀ (W:World) (i:Nat) (v:Value),Only (fun k=>k=b) W (W.setCell ⟨b,i,none⟩ v):=fun W i v=>Only.setCell W ⟨b,i,none⟩ v rfl
  exact (((((st _ 0 _).trans (st _ 1 _) (fun _ _ h=>h)).trans (st _ 2 _) (fun _ _ h=>h)).trans (st _ 3 _) (fun _ _ h=>h)).trans (st _ 4 _) (fun _ _ h=>h)).trans (st _ 5 _) (fun _ _ h=>h)
theorem Pag.six {w:World} {b:Nat} {u0 u1 u2 u3 u4 u5:Value} (h:Pag w b u0 u1 u2 u3 u4 u5) (v0 v1 v2 v3 v4 v5:Value):Pag ((((((w.setCell ⟨b,0,none⟩ v0).setCell ⟨b,1,none⟩ v1).setCell ⟨b,2,none⟩ v2).setCell ⟨b,3,none⟩ v3).setCell ⟨b,4,none⟩ v4).setCell ⟨b,5,none⟩ v5) b v0 v1 v2 v3 v4 v5:=by
  have oth:∀ (W:World) (i j:Nat) (v x:Value),i≠j→W.cell? ⟨b,j,none⟩=some x→(W.setCell ⟨b,i,none⟩ v).cell? ⟨b,j,none⟩=some x:=fun W i j v x hij hx=>(World.cell?_setCell_other _ _ _ _ (by intro e; injection e with _ e2; exact hij e2)).trans hx
  have same:∀ (W:World) (i:Nat) (v x:Value),W.cell? ⟨b,i,none⟩=some x→(W.setCell ⟨b,i,none⟩ v).cell? ⟨b,i,none⟩=some v:=fun W i v x hx=>World.cell?_setCell_same _ _ _ hx
  have a1:=oth _ 0 1 v0 _ (by omega) h.c1
  have a2:=oth _ 1 2 v1 _ (by omega) (oth _ 0 2 v0 _ (by omega) h.c2)
  have a3:=oth _ 2 3 v2 _ (by omega) (oth _ 1 3 v1 _ (by omega) (oth _ 0 3 v0 _ (by omega) h.c3))
  have a4:=oth _ 3 4 v3 _ (by omega) (oth _ 2 4 v2 _ (by omega) (oth _ 1 4 v1 _ (by omega) (oth _ 0 4 v0 _ (by omega) h.c4)))
  have a5:=oth _ 4 5 v4 _ (by omega) (oth _ 3 5 v3 _ (by omega) (oth _ 2 5 v2 _ (by omega) (oth _ 1 5 v1 _ (by omega) (oth _ 0 5 v0 _ (by omega) h.c5))))
  have b0:=same _ 0 v0 _ h.c0
  have b1:=same _ 1 v1 _ a1
  have b2:=same _ 2 v2 _ a2
  have b3:=same _ 3 v3 _ a3
  have b4:=same _ 4 v4 _ a4
  have b5:=same _ 5 v5 _ a5
  refine ⟨oth _ 5 0 _ _ (by omega) (oth _ 4 0 _ _ (by omega) (oth _ 3 0 _ _ (by omega) (oth _ 2 0 _ _ (by omega) (oth _ 1 0 _ _ (by omega) b0)))),oth _ 5 1 _ _ (by omega) (oth _ 4 1 _ _ (by omega) (oth _ 3 1 _ _ (by omega) (oth _ 2 1 _ _ (by omega) b1))),
    oth _ 5 2 _ _ (by omega) (oth _ 4 2 _ _ (by omega) (oth _ 3 2 _ _ (by omega) b2)),oth _ 5 3 _ _ (by omega) (oth _ 4 3 _ _ (by omega) b3),oth _ 5 4 _ _ (by omega) b4,b5,?_,?_,?_,?_,?_,?_,?_⟩
  · simpa using h.f0
  · simpa using h.f1
  · simpa using h.f2
  · simpa using h.f3
  · simpa using h.f4
  · simpa using h.f5
  · simpa using h.lt
theorem Tryz.cellsPage:Tryz.prog.cellsOf 24=6:=by kernel_rfl
theorem load_page {w:World} {b:Nat} {v0 v1 v2 v3 v4 v5:Value} (h:Pag w b v0 v1 v2 v3 v4 v5):(loadVar 24 ⟨b,0,none⟩).run Tryz.prog w=.ok (.agg #[v0,v1,v2,v3,v4,v5]) w:=by
  have c0:=h.c0
  have c1:=h.c1
  have c2:=h.c2
  have c3:=h.c3
  have c4:=h.c4
  have c5:=h.c5
  simp [loadVar,go_sem,c0,c1,c2,c3,c4,c5]
theorem results_page {fn:Func} {p u:Tmp} (h:fn.results=#[.cell p 24,.tmp u]) {tmps:Array Value} {w:World} {b:Nat} {v0 v1 v2 v3 v4 v5:Value} (hp:tmps.getD p undef=.pointer (some ⟨b,0,none⟩)) (hP:Pag w b v0 v1 v2 v3 v4 v5) :
    (results fn tmps).run Tryz.prog w=.ok (.tuple #[.agg #[v0,v1,v2,v3,v4,v5],tmps.getD u undef]) w:=by
  have e:(asAddr (.pointer (some ⟨b,0,none⟩))).run Tryz.prog w=.ok ⟨b,0,none⟩ w:=rfl
  rw [results_cell_tmp h,hp,e]
  simp only [Result.andThen,load_page hP]
set_option maxHeartbeats 800000 in
theorem psize_any (w:World) (a k v r:Int) (h:ByteArray) (B cp:Nat) (ao:Option Addr) (l:List ByteArray) (hS:Strs w B ao l) (hh:h.size≤140737488355328) :
    Calls Tryz.prog 107 #[.agg #[.int .i64 a,.int .i64 k,.int .i64 v,.int .i64 r,.string h,.slice ao l.length cp]] w fun e w'=>e=.returned (.int .i64 (wrap64 (20+h.size+isz l)))∧Only (fun _=>False) w w':=by
  have hlen:=hS.len
  have HS:=hide hS
  clear hS
  go_enter Tryz.func107,Tryz.ntmps107
  go_wp2_with fail
  have HO:=hide (onlyA w (.cells #[.int .i64 a,.int .i64 k,.int .i64 v,.int .i64 r,.string h,.slice ao l.length cp] 24))
  go_loop [3,13] (fun x y=>∃ (j:Nat) (q:Int),j≤l.length∧y=.int .i64 (j:Int)∧x=.int .i64 q∧-9223372036854775808≤q∧q < 9223372036854775808∧Hid (q=wrap64 (20+h.size+isz (l.take j)))) (fun _ y=>l.length - (intOf y).toNat)
  case atStart=>exact ⟨0,20+h.size,by omega,rfl,rfl,by omega,by omega,by unfold Hid wrap64; simp [isz]; omega⟩
  case round=>
    obtain ⟨j,q,hj,rfl,rfl,q0,q1,HQ⟩:=hrel
    by_cases hlt:j < l.length
    · obtain ⟨o1,e1,c1⟩:=(HS.out.more HO.out).at_ (by omega)
      have k1:=c1 j hlt
      have hz:=HS.out.size l[j] (List.getElem_mem hlt)
      have HT:Hid (wrap64 (20+h.size+isz (l.take (j+1)))=wrap64 (q+(2+(l[j].size:Int)))):=by
        unfold Hid
        rw [HQ.out,w64_w64,isz_snoc l j hlt]
        congr 1
        omega
      have hj1:(j:Int) < (l.length:Int):=by omega
      obtain ⟨s,hs⟩:=exq (l[j])
      rw [hs] at k1 hz HT
      clear c1 hs
      subst e1
      go_wp2_with fail
      go_round
      case rel=>exact ⟨j+1,_,by omega,by go_num,rfl,(w64_bd _).1,(w64_bd _).2,HT.out.symm⟩
      case measure=>simp [intOf]; omega
    · have e:l.take j=l:=List.take_of_length_le (by omega)
      rw [e] at HQ
      go_wp2_with fail
      go_ret
      exact ⟨ret_int HQ.out,HO.out⟩
set_option maxHeartbeats 800000 in
theorem ysize_any (w:World) (a k v r:Int) (h:ByteArray) (B cp:Nat) (ao:Option Addr) (l:List ByteArray) (hS:Strs w B ao l) (hh:h.size≤140737488355328) :
    Calls Tryz.prog 116 #[.agg #[.int .i64 a,.int .i64 k,.int .i64 v,.int .i64 r,.string h,.slice ao l.length cp]] w fun e w'=>e=.returned (.int .i64 (wrap64 (20+h.size+isz l)))∧Only (fun _=>False) w w':=by
  have hlen:=hS.len
  have HS:=hide hS
  clear hS
  go_enter Tryz.func116,Tryz.ntmps116
  go_wp2_with fail
  have HO:=hide (onlyA w (.cells #[.int .i64 a,.int .i64 k,.int .i64 v,.int .i64 r,.string h,.slice ao l.length cp] 24))
  go_loop [3,4] (fun x y=>∃ (j:Nat) (q:Int),j≤l.length∧y=.int .i64 (j:Int)∧x=.int .i64 q∧-9223372036854775808≤q∧q < 9223372036854775808∧Hid (q=wrap64 (20+h.size+isz (l.take j)))) (fun _ y=>l.length - (intOf y).toNat)
  case atStart=>exact ⟨0,20+h.size,by omega,rfl,rfl,by omega,by omega,by unfold Hid wrap64; simp [isz]; omega⟩
  case round=>
    obtain ⟨j,q,hj,rfl,rfl,q0,q1,HQ⟩:=hrel
    by_cases hlt:j < l.length
    · obtain ⟨o1,e1,c1⟩:=(HS.out.more HO.out).at_ (by omega)
      have k1:=c1 j hlt
      have hz:=HS.out.size l[j] (List.getElem_mem hlt)
      have HT:Hid (wrap64 (20+h.size+isz (l.take (j+1)))=wrap64 (wrap64 (q+2)+(l[j].size:Int))):=by
        unfold Hid
        rw [HQ.out,w64_w64,Int.add_assoc (wrap64 _),w64_w64,isz_snoc l j hlt]
        congr 1
        omega
      have hj1:(j:Int) < (l.length:Int):=by omega
      obtain ⟨s,hs⟩:=exq (l[j])
      rw [hs] at k1 hz HT
      clear c1 hs
      subst e1
      go_wp2_with fail
      go_round
      case rel=>exact ⟨j+1,_,by omega,by go_num,rfl,(w64_bd _).1,(w64_bd _).2,HT.out.symm⟩
      case measure=>simp [intOf]; omega
    · have e:l.take j=l:=List.take_of_length_le (by omega)
      rw [e] at HQ
      go_wp2_with fail
      go_ret
      exact ⟨ret_int HQ.out,HO.out⟩
theorem w64_few {h:ByteArray} {l:List ByteArray} (hs:∀ s ∈ l,s.size≤140737488355328) (hh:h.size≤140737488355328) (hl:l.length≤255):wrap64 (20+h.size+isz l)=20+h.size+isz l:=by
  have:=isz_le hs
  unfold wrap64
  omega
set_option maxHeartbeats 800000 in
theorem tooLong_any (w:World) (a k v r:Int) (h:ByteArray) (B cp:Nat) (ao:Option Addr) (l:List ByteArray) (hS:Strs w B ao l) (hh:h.size≤140737488355328) :
    Calls Tryz.prog 75 #[.agg #[.int .i64 a,.int .i64 k,.int .i64 v,.int .i64 r,.string h,.slice ao l.length cp]] w fun e w'=>e=.returned (.bool (decide (255 < l.length∨512 < 20+h.size+isz l)))∧Only (fun _=>False) w w':=by
  have hlen:=hS.len
  have HS:=hide hS
  clear hS
  have HO:=hide (onlyA w (.cells #[.int .i64 a,.int .i64 k,.int .i64 v,.int .i64 r,.string h,.slice ao l.length cp] 24))
  by_cases hn:255 < l.length
  · have HR:Hid (decide (255 < l.length∨512 < 20+h.size+isz l)=true):=decide_eq_true (.inl hn)
    rw [HR.out]
    go_enter Tryz.func75,Tryz.ntmps75
    go_wp2_with fail
    go_ret
    exact ⟨rfl,HO.out⟩
  · have HZ:=hide (w64_few HS.out.size hh (by omega))
    have hbb:=isz_le HS.out.size
    obtain ⟨z,hz⟩:∃ z:Nat,20+h.size+isz l=z:=⟨_,rfl⟩
    have hz2:(20+h.size+isz l:Int)=z:=by omega
    rw [hz2] at HZ
    rw [hz]
    by_cases hc:512 < z
    · have HR:Hid (decide (255 < l.length∨512 < z)=true):=decide_eq_true (.inr hc)
      rw [HR.out]
      go_enter Tryz.func75,Tryz.ntmps75
      go_wp2_with fail
      refine (psize_any _ a k v r h B cp ao l (HS.out.more HO.out) hh).mono ?_
      rw [hz2,HZ.out]
      rintro e w1 ⟨rfl,ho1⟩
      have HO1:=hide (o2 HO.out ho1)
      clear ho1
      go_wp2_with fail
      go_ret
      exact ⟨ret_bool (by simp; omega),HO1.out⟩
    · have HR:Hid (decide (255 < l.length∨512 < z)=false):=decide_eq_false (by omega)
      rw [HR.out]
      go_enter Tryz.func75,Tryz.ntmps75
      go_wp2_with fail
      refine (psize_any _ a k v r h B cp ao l (HS.out.more HO.out) hh).mono ?_
      rw [hz2,HZ.out]
      rintro e w1 ⟨rfl,ho1⟩
      have HO1:=hide (o2 HO.out ho1)
      clear ho1
      go_wp2_with fail
      go_ret
      exact ⟨ret_bool (by simp; omega),HO1.out⟩
set_option maxHeartbeats 800000 in
theorem fitting_any (w:World) (a k v r:Int) (h:ByteArray) (B cp:Nat) (ao:Option Addr) (l:List ByteArray) (hS:Strs w B ao l) (hh:h.size≤140737488355328) :
    Calls Tryz.prog 115 #[.agg #[.int .i64 a,.int .i64 k,.int .i64 v,.int .i64 r,.string h,.slice ao l.length cp]] w fun e w'=>
      e=.returned (if 255 < l.length∨512 < 20+h.size+isz l then .tuple #[.agg #[.int .i64 0,.int .i64 0,.int .i64 0,.int .i64 0,.string ⟨#[]⟩,.slice none 0 0],.int .i64 3] else .tuple #[.agg #[.int .i64 a,.int .i64 k,.int .i64 v,.int .i64 r,.string h,.slice ao l.length cp],.int .i64 0])∧Only (fun _=>False) w w':=by
  have hlen:=hS.len
  have HS:=hide hS
  clear hS
  have HP:=hide ((Pag.new w (.int .i64 a) (.int .i64 k) (.int .i64 v) (.int .i64 r) (.string h) (.slice ao l.length cp)).more (onlyA _ (.cells #[.int .i64 0,.int .i64 0,.int .i64 0,.int .i64 0,.string ⟨#[]⟩,.slice none 0 0] 24)))
  have HQ:=hide (Pag.new (w.alloc (.cells #[.int .i64 a,.int .i64 k,.int .i64 v,.int .i64 r,.string h,.slice ao l.length cp] 24)) (.int .i64 0) (.int .i64 0) (.int .i64 0) (.int .i64 0) (.string ⟨#[]⟩) (.slice none 0 0))
  have HO:=hide (o2 (onlyA w (.cells #[.int .i64 a,.int .i64 k,.int .i64 v,.int .i64 r,.string h,.slice ao l.length cp] 24)) (onlyA _ (.cells #[.int .i64 0,.int .i64 0,.int .i64 0,.int .i64 0,.string ⟨#[]⟩,.slice none 0 0] 24)))
  go_enter Tryz.func115,Tryz.ntmps115
  go_wp2_with fail
  refine (tooLong_any _ a k v r h B cp ao l (HS.out.more HO.out) hh).mono ?_
  rintro e w1 ⟨rfl,ho1⟩
  have HO1:=hide (o2 HO.out ho1)
  obtain ⟨p0,p1,p2,p3,p4,p5,g0,g1,g2,g3,g4,g5,gl⟩:=HP.out.more ho1
  obtain ⟨q0,q1,q2,q3,q4,q5,t0,t1,t2,t3,t4,t5,tl⟩:=HQ.out.more ho1
  have hsz:(w.alloc (.cells #[.int .i64 a,.int .i64 k,.int .i64 v,.int .i64 r,.string h,.slice ao l.length cp] 24)).heap.size=w.heap.size+1:=by simp
  rw [hsz] at q0 q1 q2 q3 q4 q5 t0 t1 t2 t3 t4 t5 tl
  clear ho1 hsz
  by_cases hc:255 < l.length∨512 < 20+h.size+isz l
  · have HR:=hide (decide_eq_true hc)
    rw [HR.out]
    go_wp2_with fail
    refine bodyPost_ret (results_page rfl rfl (Pag.six ⟨q0,q1,q2,q3,q4,q5,t0,t1,t2,t3,t4,t5,tl⟩ _ _ _ _ _ _)) rfl ?_
    exact ⟨rfl,HO1.out.trans (Only.six w1 (w.heap.size+1) _ _ _ _ _ _) (fun i hi e=>by omega)⟩
  · have HR:=hide (decide_eq_false hc)
    rw [HR.out]
    go_wp2_with fail
    refine bodyPost_ret (results_page rfl rfl (Pag.six ⟨q0,q1,q2,q3,q4,q5,t0,t1,t2,t3,t4,t5,tl⟩ _ _ _ _ _ _)) rfl ?_
    exact ⟨rfl,HO1.out.trans (Only.six w1 (w.heap.size+1) _ _ _ _ _ _) (fun i hi e=>by omega)⟩
def En.agg (e:En):Value:=.agg #[.string e.key,.int .i64 e.page,.int .i64 e.slot]
def nm (n:Int):Bool:=decide (0≤n∧n≤65535)
theorem nm_eq (n:Int):nm n=(decide (0≤n) && decide (n≤65535)):=by unfold nm; rw [Bool.eq_iff_iff]; simp
theorem okC_eq (n:Int):okC n=(decide (1≤n) && decide (n≤65535)):=by unfold okC; rw [Bool.eq_iff_iff]; simp
theorem En.ok_eq (e:En):e.ok=(decide ((1:Int)≤e.key.size) && decide ((e.key.size:Int)≤24) && nm e.page && nm e.slot):=by
  unfold En.ok nm
  rw [Bool.eq_iff_iff]
  simp only [Bool.and_eq_true,decide_eq_true_eq]
  omega
theorem isNumber_any (n:Int) (w:World):Calls Tryz.prog 97 #[.int .i64 n] w fun e w'=>e=.returned (.bool (nm n))∧w'=w:=by
  rw [nm_eq]
  by_cases h1:(0:Int)≤n
  · go_enter Tryz.func97,Tryz.ntmps97
    go_wp2
    go_ret
    exact ⟨by simp [h1],rfl⟩
  · go_enter Tryz.func97,Tryz.ntmps97
    go_wp2
    go_ret
    exact ⟨by simp; omega,rfl⟩
theorem fsmall_any (n:Int) (w:World):Calls Tryz.prog 88 #[.int .i64 n] w fun e w'=>e=.returned (.bool (nm n))∧w'=w:=by
  rw [nm_eq]
  by_cases h1:(0:Int)≤n
  · go_enter Tryz.func88,Tryz.ntmps88
    go_wp2
    go_ret
    exact ⟨by simp [h1],rfl⟩
  · go_enter Tryz.func88,Tryz.ntmps88
    go_wp2
    go_ret
    exact ⟨by simp; omega,rfl⟩
theorem isChild_any (n:Int) (w:World):Calls Tryz.prog 81 #[.int .i64 n] w fun e w'=>e=.returned (.bool (okC n))∧w'=w:=by
  rw [okC_eq]
  by_cases h1:(1:Int)≤n
  · go_enter Tryz.func81,Tryz.ntmps81
    go_wp2
    go_ret
    exact ⟨by simp [h1],rfl⟩
  · go_enter Tryz.func81,Tryz.ntmps81
    go_wp2
    go_ret
    exact ⟨by simp; omega,rfl⟩
theorem fchild_any (n:Int) (w:World):Calls Tryz.prog 52 #[.int .i64 n] w fun e w'=>e=.returned (.bool (okC n))∧w'=w:=by
  rw [okC_eq]
  by_cases h1:(1:Int)≤n
  · go_enter Tryz.func52,Tryz.ntmps52
    go_wp2
    go_ret
    exact ⟨by simp [h1],rfl⟩
  · go_enter Tryz.func52,Tryz.ntmps52
    go_wp2
    go_ret
    exact ⟨by simp; omega,rfl⟩
set_option maxHeartbeats 800000 in
theorem isEntry_any (e:En) (w:World):Calls Tryz.prog 60 #[e.agg] w fun x w'=>x=.returned (.bool e.ok)∧Only (fun _=>False) w w':=by
  rw [En.ok_eq]
  obtain ⟨k,p,s⟩:=e
  unfold En.agg
  simp only []
  have HO:=hide (onlyA w (.cells #[.string k,.int .i64 p,.int .i64 s] 41))
  obtain ⟨bp,hbp⟩:=exq (nm p)
  obtain ⟨bs,hbs⟩:=exq (nm s)
  have HP:Hid (∀ W,Calls Tryz.prog 97 #[.int .i64 p] W fun e w'=>e=.returned (.bool bp)∧w'=W):=fun W=>by have:=isNumber_any p W; rwa [hbp] at this
  have HS:Hid (∀ W,Calls Tryz.prog 97 #[.int .i64 s] W fun e w'=>e=.returned (.bool bs)∧w'=W):=fun W=>by have:=isNumber_any s W; rwa [hbs] at this
  rw [hbp,hbs]
  clear hbp hbs
  by_cases h1:(1:Int)≤k.size
  · by_cases h2:(k.size:Int)≤24
    · go_enter Tryz.func60,Tryz.ntmps60
      go_wp2_with fail
      refine (HP.out _).mono ?_
      rintro e w1 ⟨rfl,h⟩
      obtain rfl:=h.symm
      cases bp with
      | true=>
        go_wp2_with fail
        refine (HS.out _).mono ?_
        rintro e w1 ⟨rfl,h⟩
        obtain rfl:=h.symm
        go_wp2_with fail
        go_ret
        exact ⟨by simp [h1,h2],HO.out⟩
      | false=>
        go_wp2_with fail
        go_ret
        exact ⟨by simp,HO.out⟩
    · go_enter Tryz.func60,Tryz.ntmps60
      go_wp2_with fail
      go_ret
      exact ⟨by simp; intros; omega,HO.out⟩
  · go_enter Tryz.func60,Tryz.ntmps60
    go_wp2_with fail
    go_ret
    exact ⟨by simp; intros; omega,HO.out⟩
set_option maxHeartbeats 800000 in
theorem fentry_any (e:En) (w:World):Calls Tryz.prog 55 #[e.agg] w fun x w'=>x=.returned (.bool e.ok)∧Only (fun _=>False) w w':=by
  rw [En.ok_eq]
  obtain ⟨k,p,s⟩:=e
  unfold En.agg
  simp only []
  have HO:=hide (onlyA w (.cells #[.string k,.int .i64 p,.int .i64 s] 41))
  obtain ⟨bp,hbp⟩:=exq (nm p)
  obtain ⟨bs,hbs⟩:=exq (nm s)
  have HP:Hid (∀ W,Calls Tryz.prog 88 #[.int .i64 p] W fun e w'=>e=.returned (.bool bp)∧w'=W):=fun W=>by have:=fsmall_any p W; rwa [hbp] at this
  have HS:Hid (∀ W,Calls Tryz.prog 88 #[.int .i64 s] W fun e w'=>e=.returned (.bool bs)∧w'=W):=fun W=>by have:=fsmall_any s W; rwa [hbs] at this
  rw [hbp,hbs]
  clear hbp hbs
  by_cases h1:(1:Int)≤k.size
  · by_cases h2:(k.size:Int)≤24
    · go_enter Tryz.func55,Tryz.ntmps55
      go_wp2_with fail
      refine (HP.out _).mono ?_
      rintro e w1 ⟨rfl,h⟩
      obtain rfl:=h.symm
      cases bp with
      | true=>
        go_wp2_with fail
        refine (HS.out _).mono ?_
        rintro e w1 ⟨rfl,h⟩
        obtain rfl:=h.symm
        go_wp2_with fail
        go_ret
        exact ⟨by simp [h1,h2],HO.out⟩
      | false=>
        go_wp2_with fail
        go_ret
        exact ⟨by simp,HO.out⟩
    · go_enter Tryz.func55,Tryz.ntmps55
      go_wp2_with fail
      go_ret
      exact ⟨by simp; intros; omega,HO.out⟩
  · go_enter Tryz.func55,Tryz.ntmps55
    go_wp2_with fail
    go_ret
    exact ⟨by simp; intros; omega,HO.out⟩
theorem ba_eqN {s t:ByteArray} (h:s=t):(s.toList == t.toList)=true:=by simp [h]
theorem ba_neN {s t:ByteArray} (h:¬ s=t):(s.toList == t.toList)=false:=by
  cases e:(s.toList == t.toList) with
  | false=>rfl
  | true=>
    refine absurd ?_ h
    have e':s.toList=t.toList:=by simpa using e
    rw [ByteArray.toList_eq,ByteArray.toList_eq] at e'
    exact bl_injN e'
theorem eqE_run (a b:En) (w:World):(binOp .eql 41 (.agg #[.string a.key,.int .i64 a.page,.int .i64 a.slot]) (.agg #[.string b.key,.int .i64 b.page,.int .i64 b.slot])).run Tryz.prog w=.ok (.bool (decide (a=b))) w:=by
  obtain ⟨k,p,s⟩:=a
  obtain ⟨k',p',s'⟩:=b
  by_cases h1:k=k'
  · by_cases h2:p=p'
    · by_cases h3:s=s'
      · subst h1 h2 h3
        simp [go_sem]
      · simp [go_sem,h1,h2,h3]
    · simp [go_sem,h1,h2]
  · have h4:=ba_neN h1
    have h5:¬ k.toList=k'.toList:=by simpa using h4
    simp [go_sem,h1,h5]
theorem isLeast_any (e:En) (w:World):Calls Tryz.prog 112 #[e.agg] w fun x w'=>x=.returned (.bool (decide (e=noE)))∧Only (fun _=>False) w w':=by
  have he:∀ W,(binOp .eql 41 (.agg #[.string e.key,.int .i64 e.page,.int .i64 e.slot]) (.agg #[.string ⟨#[]⟩,.int .i64 0,.int .i64 0])).run Tryz.prog W=.ok (.bool (decide (e=noE))) W:=fun W=>eqE_run e noE W
  obtain ⟨b,hb⟩:=exq (decide (e=noE))
  rw [hb] at he ⊢
  clear hb
  obtain ⟨k,p,s⟩:=e
  unfold En.agg
  simp only [] at he ⊢
  have HO:=hide (onlyA w (.cells #[.string k,.int .i64 p,.int .i64 s] 41))
  go_enter Tryz.func112,Tryz.ntmps112
  go_wp2_with fail
  go_ret
  exact ⟨rfl,HO.out⟩
theorem separates_any (e:En) (w:World):Calls Tryz.prog 80 #[e.agg] w fun x w'=>x=.returned (.bool e.sp)∧Only (fun _=>False) w w':=by
  have HL:Hid (∀ W,Calls Tryz.prog 112 #[e.agg] W fun x w'=>x=.returned (.bool (decide (e=noE)))∧Only (fun _=>False) W w'):=fun W=>isLeast_any e W
  have HE:Hid (∀ W,Calls Tryz.prog 60 #[e.agg] W fun x w'=>x=.returned (.bool e.ok)∧Only (fun _=>False) W w'):=fun W=>isEntry_any e W
  unfold En.sp
  obtain ⟨b,hb⟩:=exq (decide (e=noE))
  obtain ⟨c,hc⟩:=exq (e.ok)
  rw [hb] at HL ⊢
  rw [hc] at HE ⊢
  clear hb hc
  obtain ⟨k,p,s⟩:=e
  unfold En.agg at HL HE ⊢
  simp only [] at HL HE ⊢
  have HO:=hide (onlyA w (.cells #[.string k,.int .i64 p,.int .i64 s] 41))
  cases b with
  | true=>
    go_enter Tryz.func80,Tryz.ntmps80
    go_wp2_with fail
    refine (HL.out _).mono ?_
    rintro x w1 ⟨rfl,ho⟩
    have HO1:=hide (o2 HO.out ho)
    clear ho
    go_wp2_with fail
    go_ret
    exact ⟨rfl,HO1.out⟩
  | false=>
    have c0:(w.alloc (.cells #[.string k,.int .i64 p,.int .i64 s] 41)).cell? ⟨w.heap.size,0,none⟩=some (.string k):=by simp
    have c1:(w.alloc (.cells #[.string k,.int .i64 p,.int .i64 s] 41)).cell? ⟨w.heap.size,1,none⟩=some (.int .i64 p):=by simp
    have c2:(w.alloc (.cells #[.string k,.int .i64 p,.int .i64 s] 41)).cell? ⟨w.heap.size,2,none⟩=some (.int .i64 s):=by simp
    have hz:w.heap.size < (w.alloc (.cells #[.string k,.int .i64 p,.int .i64 s] 41)).heap.size:=by simp
    have HC:=hide (And.intro c0 (And.intro c1 (And.intro c2 hz)))
    clear c0 c1 c2 hz
    go_enter Tryz.func80,Tryz.ntmps80
    go_wp2_with fail
    refine (HL.out _).mono ?_
    rintro x w1 ⟨rfl,ho⟩
    have HO1:=hide (o2 HO.out ho)
    have d0:=(ho.cell (p:=⟨w.heap.size,0,none⟩) HC.out.2.2.2 (fun h=>h)).trans HC.out.1
    have d1:=(ho.cell (p:=⟨w.heap.size,1,none⟩) HC.out.2.2.2 (fun h=>h)).trans HC.out.2.1
    have d2:=(ho.cell (p:=⟨w.heap.size,2,none⟩) HC.out.2.2.2 (fun h=>h)).trans HC.out.2.2.1
    clear ho
    go_wp2_with fail
    refine (HE.out _).mono ?_
    rintro x w2 ⟨rfl,ho⟩
    have HO2:=hide (o2 HO1.out ho)
    clear ho
    go_wp2_with fail
    go_ret
    exact ⟨by simp,HO2.out⟩
theorem bless_lt {a b:ByteArray}:Op.bytesLess a.toList b.toList=decide (bl a < bl b):=by
  rw [bytesLess_eq,ByteArray.toList_eq,ByteArray.toList_eq]
set_option maxHeartbeats 800000 in
theorem isAhead_any (a b:En) (w:World):Calls Tryz.prog 122 #[a.agg,b.agg] w fun x w'=>x=.returned (.bool (decide (a.lt b)))∧Only (fun _=>False) w w':=by
  obtain ⟨k,p,s⟩:=a
  obtain ⟨k',p',s'⟩:=b
  unfold En.agg En.lt
  simp only []
  have HO:=hide (o2 (onlyA w (.cells #[.string k,.int .i64 p,.int .i64 s] 41)) (onlyA _ (.cells #[.string k',.int .i64 p',.int .i64 s'] 41)))
  obtain ⟨B,hB⟩:=exq (decide (if k=k' then (if p=p' then s < s' else p < p') else bl k < bl k'))
  rw [hB]
  have HB:=hide hB
  clear hB
  by_cases h1:k=k'
  · have e1:=ba_eqN h1
    have H1:=hide h1
    clear h1
    by_cases h2:p=p'
    · have e2:(p == p')=true:=by simpa using h2
      have H2:=hide h2
      clear h2
      go_enter Tryz.func122,Tryz.ntmps122
      go_wp2_with fail
      go_ret
      exact ⟨ret_bool (by rw [← HB.out]; exact decide_eq_decide.2 (by rw [if_pos H1.out,if_pos H2.out])),HO.out⟩
    · have e2:(p == p')=false:=by simpa using h2
      have H2:=hide h2
      clear h2
      go_enter Tryz.func122,Tryz.ntmps122
      go_wp2_with fail
      go_ret
      exact ⟨ret_bool (by rw [← HB.out]; exact decide_eq_decide.2 (by rw [if_pos H1.out,if_neg H2.out])),HO.out⟩
  · have e1:=ba_neN h1
    have H1:=hide h1
    clear h1
    go_enter Tryz.func122,Tryz.ntmps122
    go_wp2_with fail
    go_ret
    exact ⟨ret_bool (by rw [← HB.out,bless_lt]; exact decide_eq_decide.2 (by rw [if_neg H1.out])),HO.out⟩
structure Eb (w:World) (b o:Nat) (e:En):Prop where
  c0:w.cell? ⟨b,o,none⟩=some (.string e.key)
  c1:w.cell? ⟨b,o+1,none⟩=some (.int .i64 e.page)
  c2:w.cell? ⟨b,o+2,none⟩=some (.int .i64 e.slot)
  lt:b < w.heap.size
theorem Eb.kept {S:Nat→Prop} {w w':World} {b o:Nat} {e:En} (h:Eb w b o e) (ho:Only S w w') (hS:¬ S b):Eb w' b o e :=
  ⟨(ho.cell (p:=⟨b,o,none⟩) h.lt hS).trans h.c0,(ho.cell (p:=⟨b,o+1,none⟩) h.lt hS).trans h.c1,(ho.cell (p:=⟨b,o+2,none⟩) h.lt hS).trans h.c2,Nat.lt_of_lt_of_le h.lt ho.size⟩
theorem Eb.more {w w':World} {b o:Nat} {e:En} (h:Eb w b o e) (ho:Only (fun _=>False) w w'):Eb w' b o e:=h.kept ho (fun h=>h)
theorem Eb.new (w:World) (e:En):Eb (w.alloc (.cells #[.string e.key,.int .i64 e.page,.int .i64 e.slot] 41)) w.heap.size 0 e:=⟨by simp,by simp,by simp,by simp⟩
set_option maxHeartbeats 800000 in
theorem compare_any (a b:En) (w:World):Calls Tryz.prog 105 #[a.agg,b.agg] w fun x w'=>x=.returned (.int .i64 (cmpE a b))∧Only (fun _=>False) w w':=by
  have he:=eqE_run a b
  have HA:Hid (∀ W,Calls Tryz.prog 122 #[a.agg,b.agg] W fun x w'=>x=.returned (.bool (decide (a.lt b)))∧Only (fun _=>False) W w'):=fun W=>isAhead_any a b W
  have HO:=hide (o2 (onlyA w (.cells #[.string a.key,.int .i64 a.page,.int .i64 a.slot] 41)) (onlyA _ (.cells #[.string b.key,.int .i64 b.page,.int .i64 b.slot] 41)))
  by_cases h:a=b
  · have hz:cmpE a b=0:=cmpE_zero.2 h
    have hd:decide (a=b)=true:=decide_eq_true h
    rw [hd] at he
    rw [hz]
    clear h hd hz HA
    obtain ⟨k,p,s⟩:=a
    obtain ⟨k',p',s'⟩:=b
    unfold En.agg
    simp only [] at he HO ⊢
    go_enter Tryz.func105,Tryz.ntmps105
    go_wp2_with fail
    go_ret
    exact ⟨rfl,HO.out⟩
  · have hd:decide (a=b)=false:=decide_eq_false h
    rw [hd] at he
    have hz:cmpE a b=if a.lt b then -1 else 1:=by unfold cmpE; rw [if_neg h]
    rw [hz]
    clear h hd hz
    by_cases h:a.lt b
    · have hd:decide (a.lt b)=true:=decide_eq_true h
      rw [hd] at HA
      rw [if_pos h]
      clear h hd
      obtain ⟨k,p,s⟩:=a
      obtain ⟨k',p',s'⟩:=b
      unfold En.agg at HA ⊢
      simp only [] at he HO HA ⊢
      go_enter Tryz.func105,Tryz.ntmps105
      go_wp2_with fail
      refine (HA.out _).mono ?_
      rintro x w1 ⟨rfl,ho⟩
      have HO1:=hide (o2 HO.out ho)
      clear ho
      go_wp2_with fail
      go_ret
      exact ⟨rfl,HO1.out⟩
    · have hd:decide (a.lt b)=false:=decide_eq_false h
      rw [hd] at HA
      rw [if_neg h]
      clear h hd
      obtain ⟨k,p,s⟩:=a
      obtain ⟨k',p',s'⟩:=b
      unfold En.agg at HA ⊢
      simp only [] at he HO HA ⊢
      go_enter Tryz.func105,Tryz.ntmps105
      go_wp2_with fail
      refine (HA.out _).mono ?_
      rintro x w1 ⟨rfl,ho⟩
      have HO1:=hide (o2 HO.out ho)
      clear ho
      go_wp2_with fail
      go_ret
      exact ⟨rfl,HO1.out⟩
end Go.Proofs.YtipkeeobmihogaaGreat
