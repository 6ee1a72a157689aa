/- Parts. -/
import Derived.Test.YtajjakljheafjaaGreatK02
import Derived.Handy
import Derived.Laws.ResultCell
import Derived.Test.YtajjakljheafjaaGreatK01
import Derived.Deep.Draws
import Derived.Maps.AppendAt
import Derived.Laws.OwnMore
import Derived.Lib.AppendZeros
import Derived.Deep.RegionWith
import Derived.Deep.DeepCutAuto
set_option maxRecDepth 100000
namespace Go.Proofs.YtajjakljheafjaaGreat
open Go.RowKit
structure Strs (w:World) (B:Nat) (ao:Option Addr) (l:List ByteArray):Prop where
  at_:0 < l.length→∃ o,ao=some ⟨B,o,none⟩∧∀ j (h:j < l.length),w.cell? ⟨B,o+j,none⟩=some (.string l[j])
  lt:0 < l.length→B < w.heap.size
  len:l.length≤8796093022207
  size:∀ s ∈ l,s.size≤140737488355328
theorem Strs.nil (w:World) (B:Nat) (ao:Option Addr):Strs w B ao []:=⟨fun h=>absurd h (by simp),fun h=>absurd h (by simp),by simp,fun _ h=>by cases h⟩
theorem Strs.kept {S:Nat→Prop} {w w':World} {B:Nat} {ao:Option Addr} {l:List ByteArray} (h:Strs w B ao l) (ho:Only S w w') (hS:0 < l.length→¬ S B):Strs w' B ao l :=
  ⟨fun h0=>by
    obtain ⟨o,e,hc⟩:=h.at_ h0
    exact ⟨o,e,fun j hj=>(ho.cell (p:=⟨B,o+j,none⟩) (h.lt h0) (hS h0)).trans (hc j hj)⟩,fun h0=>Nat.lt_of_lt_of_le (h.lt h0) ho.size,h.len,h.size⟩
theorem Strs.more {w w':World} {B:Nat} {ao:Option Addr} {l:List ByteArray} (h:Strs w B ao l) (ho:Only (fun _=>False) w w'):Strs w' B ao l:=h.kept ho (fun _ h=>h)
theorem w64_w64 (a b:Int):wrap64 (wrap64 a+b)=wrap64 (a+b):=by unfold wrap64; omega
theorem w64_bd (a:Int):-9223372036854775808≤wrap64 a∧wrap64 a < 9223372036854775808:=by unfold wrap64; omega
theorem isz_le {l:List ByteArray} (h:∀ s ∈ l,s.size≤140737488355328):isz l≤140737488355330 * l.length:=by
  induction l with
  | nil=>simp [isz]
  | cons s l ih=>
    rw [isz_cons]
    have h1:=h s (by simp)
    have h2:=ih (fun t ht=>h t (by simp [ht]))
    simp only [List.length_cons]
    omega
theorem onlyA (w:World) (o:Obj):Only (fun _=>False) w (w.alloc o):=Only.alloc _ _ _
theorem o2 {a b c:World} (h:Only (fun _=>False) a b) (k:Only (fun _=>False) b c):Only (fun _=>False) a c:=h.trans k (fun _ _ h=>h)
theorem ret_bool {a b:Bool} (h:a=b):Ending.returned (.bool a)=.returned (.bool b):=by rw [h]
structure Pag (w:World) (b:Nat) (v0 v1 v2 v3 v4 v5:Value):Prop where
  c0:w.cell? ⟨b,0,none⟩=some v0
  c1:w.cell? ⟨b,1,none⟩=some v1
  c2:w.cell? ⟨b,2,none⟩=some v2
  c3:w.cell? ⟨b,3,none⟩=some v3
  c4:w.cell? ⟨b,4,none⟩=some v4
  c5:w.cell? ⟨b,5,none⟩=some v5
  f0:w.frozen? ⟨b,0,none⟩=false
  f1:w.frozen? ⟨b,1,none⟩=false
  f2:w.frozen? ⟨b,2,none⟩=false
  f3:w.frozen? ⟨b,3,none⟩=false
  f4:w.frozen? ⟨b,4,none⟩=false
  f5:w.frozen? ⟨b,5,none⟩=false
  lt:b < w.heap.size
theorem Pag.kept {S:Nat→Prop} {w w':World} {b:Nat} {v0 v1 v2 v3 v4 v5:Value} (h:Pag w b v0 v1 v2 v3 v4 v5) (ho:Only S w w') (hS:¬ S b):Pag w' b v0 v1 v2 v3 v4 v5 :=
  ⟨(ho.cell (p:=⟨b,0,none⟩) h.lt hS).trans h.c0,(ho.cell (p:=⟨b,1,none⟩) h.lt hS).trans h.c1,(ho.cell (p:=⟨b,2,none⟩) h.lt hS).trans h.c2,(ho.cell (p:=⟨b,3,none⟩) h.lt hS).trans h.c3,(ho.cell (p:=⟨b,4,none⟩) h.lt hS).trans h.c4,(ho.cell (p:=⟨b,5,none⟩) h.lt hS).trans h.c5,
   (ho.frozen (p:=⟨b,0,none⟩) h.lt hS).trans h.f0,(ho.frozen (p:=⟨b,1,none⟩) h.lt hS).trans h.f1,(ho.frozen (p:=⟨b,2,none⟩) h.lt hS).trans h.f2,(ho.frozen (p:=⟨b,3,none⟩) h.lt hS).trans h.f3,(ho.frozen (p:=⟨b,4,none⟩) h.lt hS).trans h.f4,(ho.frozen (p:=⟨b,5,none⟩) h.lt hS).trans h.f5,Nat.lt_of_lt_of_le h.lt ho.size⟩
theorem Pag.more {w w':World} {b:Nat} {v0 v1 v2 v3 v4 v5:Value} (h:Pag w b v0 v1 v2 v3 v4 v5) (ho:Only (fun _=>False) w w'):Pag w' b v0 v1 v2 v3 v4 v5:=h.kept ho (fun h=>h)
theorem Pag.new (w:World) (v0 v1 v2 v3 v4 v5:Value):Pag (w.alloc (.cells #[v0,v1,v2,v3,v4,v5] 37)) w.heap.size v0 v1 v2 v3 v4 v5 :=
  ⟨by simp,by simp,by simp,by simp,by simp,by simp,by simp,by simp,by simp,by simp,by simp,by simp,by simp⟩
theorem Only.six (w:World) (b:Nat) (v0 v1 v2 v3 v4 v5:Value):Only (fun k=>k=b) w ((((((w.setCell ⟨b,0,none⟩ v0).setCell ⟨b,1,none⟩ v1).setCell ⟨b,2,none⟩ v2).setCell ⟨b,3,none⟩ v3).setCell ⟨b,4,none⟩ v4).setCell ⟨b,5,none⟩ v5):=by
  have st:∀ (W:World) (i:Nat) (v:Value),Only (fun k=>k=b) W (W.setCell ⟨b,i,none⟩ v):=fun W i v=>Only.setCell W ⟨b,i,none⟩ v rfl
  exact (((((st _ 0 _).trans (st _ 1 _) (fun _ _ h=>h)).trans (st _ 2 _) (fun _ _ h=>h)).trans (st _ 3 _) (fun _ _ h=>h)).trans (st _ 4 _) (fun _ _ h=>h)).trans (st _ 5 _) (fun _ _ h=>h)
theorem Pag.six {w:World} {b:Nat} {u0 u1 u2 u3 u4 u5:Value} (h:Pag w b u0 u1 u2 u3 u4 u5) (v0 v1 v2 v3 v4 v5:Value):Pag ((((((w.setCell ⟨b,0,none⟩ v0).setCell ⟨b,1,none⟩ v1).setCell ⟨b,2,none⟩ v2).setCell ⟨b,3,none⟩ v3).setCell ⟨b,4,none⟩ v4).setCell ⟨b,5,none⟩ v5) b v0 v1 v2 v3 v4 v5:=by
  have oth:∀ (W:World) (i j:Nat) (v x:Value),i≠j→W.cell? ⟨b,j,none⟩=some x→(W.setCell ⟨b,i,none⟩ v).cell? ⟨b,j,none⟩=some x:=fun W i j v x hij hx=>(World.cell?_setCell_other _ _ _ _ (by intro e; injection e with _ e2; exact hij e2)).trans hx
  have same:∀ (W:World) (i:Nat) (v x:Value),W.cell? ⟨b,i,none⟩=some x→(W.setCell ⟨b,i,none⟩ v).cell? ⟨b,i,none⟩=some v:=fun W i v x hx=>World.cell?_setCell_same _ _ _ hx
  have a1:=oth _ 0 1 v0 _ (by omega) h.c1
  have a2:=oth _ 1 2 v1 _ (by omega) (oth _ 0 2 v0 _ (by omega) h.c2)
  have a3:=oth _ 2 3 v2 _ (by omega) (oth _ 1 3 v1 _ (by omega) (oth _ 0 3 v0 _ (by omega) h.c3))
  have a4:=oth _ 3 4 v3 _ (by omega) (oth _ 2 4 v2 _ (by omega) (oth _ 1 4 v1 _ (by omega) (oth _ 0 4 v0 _ (by omega) h.c4)))
  have a5:=oth _ 4 5 v4 _ (by omega) (oth _ 3 5 v3 _ (by omega) (oth _ 2 5 v2 _ (by omega) (oth _ 1 5 v1 _ (by omega) (oth _ 0 5 v0 _ (by omega) h.c5))))
  have b0:=same _ 0 v0 _ h.c0
  have b1:=same _ 1 v1 _ a1
  have b2:=same _ 2 v2 _ a2
  have b3:=same _ 3 v3 _ a3
  have b4:=same _ 4 v4 _ a4
  have b5:=same _ 5 v5 _ a5
  refine ⟨oth _ 5 0 _ _ (by omega) (oth _ 4 0 _ _ (by omega) (oth _ 3 0 _ _ (by omega) (oth _ 2 0 _ _ (by omega) (oth _ 1 0 _ _ (by omega) b0)))),oth _ 5 1 _ _ (by omega) (oth _ 4 1 _ _ (by omega) (oth _ 3 1 _ _ (by omega) (oth _ 2 1 _ _ (by omega) b1))),
    oth _ 5 2 _ _ (by omega) (oth _ 4 2 _ _ (by omega) (oth _ 3 2 _ _ (by omega) b2)),oth _ 5 3 _ _ (by omega) (oth _ 4 3 _ _ (by omega) b3),oth _ 5 4 _ _ (by omega) b4,b5,?_,?_,?_,?_,?_,?_,?_⟩
  · simpa using h.f0
  · simpa using h.f1
  · simpa using h.f2
  · simpa using h.f3
  · simpa using h.f4
  · simpa using h.f5
  · simpa using h.lt
theorem Tryz.cellsPage:Tryz.prog.cellsOf 37=6:=by kernel_rfl
theorem load_page {w:World} {b:Nat} {v0 v1 v2 v3 v4 v5:Value} (h:Pag w b v0 v1 v2 v3 v4 v5):(loadVar 37 ⟨b,0,none⟩).run Tryz.prog w=.ok (.agg #[v0,v1,v2,v3,v4,v5]) w:=by
  have c0:=h.c0
  have c1:=h.c1
  have c2:=h.c2
  have c3:=h.c3
  have c4:=h.c4
  have c5:=h.c5
  simp [loadVar,go_sem,c0,c1,c2,c3,c4,c5]
theorem results_page {fn:Func} {p u:Tmp} (h:fn.results=#[.cell p 37,.tmp u]) {tmps:Array Value} {w:World} {b:Nat} {v0 v1 v2 v3 v4 v5:Value} (hp:tmps.getD p undef=.pointer (some ⟨b,0,none⟩)) (hP:Pag w b v0 v1 v2 v3 v4 v5) :
    (results fn tmps).run Tryz.prog w=.ok (.tuple #[.agg #[v0,v1,v2,v3,v4,v5],tmps.getD u undef]) w:=by
  have e:(asAddr (.pointer (some ⟨b,0,none⟩))).run Tryz.prog w=.ok ⟨b,0,none⟩ w:=rfl
  rw [results_cell_tmp h,hp,e]
  simp only [Result.andThen,load_page hP]
set_option maxHeartbeats 800000 in
theorem psize_any (w:World) (a k v r:Int) (h:ByteArray) (B cp:Nat) (ao:Option Addr) (l:List ByteArray) (hS:Strs w B ao l) (hh:h.size≤140737488355328) :
    Calls Tryz.prog 150 #[.agg #[.int .i64 a,.int .i64 k,.int .i64 v,.int .i64 r,.string h,.slice ao l.length cp]] w fun e w'=>e=.returned (.int .i64 (wrap64 (20+h.size+isz l)))∧Only (fun _=>False) w w':=by
  have hlen:=hS.len
  have HS:=hide hS
  clear hS
  go_enter Tryz.func150,Tryz.ntmps150
  go_wp2_with fail
  have HO:=hide (onlyA w (.cells #[.int .i64 a,.int .i64 k,.int .i64 v,.int .i64 r,.string h,.slice ao l.length cp] 37))
  go_loop [3,13] (fun x y=>∃ (j:Nat) (q:Int),j≤l.length∧y=.int .i64 (j:Int)∧x=.int .i64 q∧-9223372036854775808≤q∧q < 9223372036854775808∧Hid (q=wrap64 (20+h.size+isz (l.take j)))) (fun _ y=>l.length - (intOf y).toNat)
  case atStart=>exact ⟨0,20+h.size,by omega,rfl,rfl,by omega,by omega,by unfold Hid wrap64; simp [isz]; omega⟩
  case round=>
    obtain ⟨j,q,hj,rfl,rfl,q0,q1,HQ⟩:=hrel
    by_cases hlt:j < l.length
    · obtain ⟨o1,e1,c1⟩:=(HS.out.more HO.out).at_ (by omega)
      have k1:=c1 j hlt
      have hz:=HS.out.size l[j] (List.getElem_mem hlt)
      have HT:Hid (wrap64 (20+h.size+isz (l.take (j+1)))=wrap64 (q+(2+(l[j].size:Int)))):=by
        unfold Hid
        rw [HQ.out,w64_w64,isz_snoc l j hlt]
        congr 1
        omega
      have hj1:(j:Int) < (l.length:Int):=by omega
      obtain ⟨s,hs⟩:=exq (l[j])
      rw [hs] at k1 hz HT
      clear c1 hs
      subst e1
      go_wp2_with fail
      go_round
      case rel=>exact ⟨j+1,_,by omega,by go_num,rfl,(w64_bd _).1,(w64_bd _).2,HT.out.symm⟩
      case measure=>simp [intOf]; omega
    · have e:l.take j=l:=List.take_of_length_le (by omega)
      rw [e] at HQ
      go_wp2_with fail
      go_ret
      exact ⟨ret_int HQ.out,HO.out⟩
theorem w64_few {h:ByteArray} {l:List ByteArray} (hs:∀ s ∈ l,s.size≤140737488355328) (hh:h.size≤140737488355328) (hl:l.length≤255):wrap64 (20+h.size+isz l)=20+h.size+isz l:=by
  have:=isz_le hs
  unfold wrap64
  omega
set_option maxHeartbeats 800000 in
theorem tooLong_any (w:World) (a k v r:Int) (h:ByteArray) (B cp:Nat) (ao:Option Addr) (l:List ByteArray) (hS:Strs w B ao l) (hh:h.size≤140737488355328) :
    Calls Tryz.prog 121 #[.agg #[.int .i64 a,.int .i64 k,.int .i64 v,.int .i64 r,.string h,.slice ao l.length cp]] w fun e w'=>e=.returned (.bool (decide (255 < l.length∨512 < 20+h.size+isz l)))∧Only (fun _=>False) w w':=by
  have hlen:=hS.len
  have HS:=hide hS
  clear hS
  have HO:=hide (onlyA w (.cells #[.int .i64 a,.int .i64 k,.int .i64 v,.int .i64 r,.string h,.slice ao l.length cp] 37))
  by_cases hn:255 < l.length
  · have HR:Hid (decide (255 < l.length∨512 < 20+h.size+isz l)=true):=decide_eq_true (.inl hn)
    rw [HR.out]
    go_enter Tryz.func121,Tryz.ntmps121
    go_wp2_with fail
    go_ret
    exact ⟨rfl,HO.out⟩
  · have HZ:=hide (w64_few HS.out.size hh (by omega))
    have hbb:=isz_le HS.out.size
    obtain ⟨z,hz⟩:∃ z:Nat,20+h.size+isz l=z:=⟨_,rfl⟩
    have hz2:(20+h.size+isz l:Int)=z:=by omega
    rw [hz2] at HZ
    rw [hz]
    by_cases hc:512 < z
    · have HR:Hid (decide (255 < l.length∨512 < z)=true):=decide_eq_true (.inr hc)
      rw [HR.out]
      go_enter Tryz.func121,Tryz.ntmps121
      go_wp2_with fail
      refine (psize_any _ a k v r h B cp ao l (HS.out.more HO.out) hh).mono ?_
      rw [hz2,HZ.out]
      rintro e w1 ⟨rfl,ho1⟩
      have HO1:=hide (o2 HO.out ho1)
      clear ho1
      go_wp2_with fail
      go_ret
      exact ⟨ret_bool (by simp; omega),HO1.out⟩
    · have HR:Hid (decide (255 < l.length∨512 < z)=false):=decide_eq_false (by omega)
      rw [HR.out]
      go_enter Tryz.func121,Tryz.ntmps121
      go_wp2_with fail
      refine (psize_any _ a k v r h B cp ao l (HS.out.more HO.out) hh).mono ?_
      rw [hz2,HZ.out]
      rintro e w1 ⟨rfl,ho1⟩
      have HO1:=hide (o2 HO.out ho1)
      clear ho1
      go_wp2_with fail
      go_ret
      exact ⟨ret_bool (by simp; omega),HO1.out⟩
set_option maxHeartbeats 800000 in
theorem fitting_any (w:World) (a k v r:Int) (h:ByteArray) (B cp:Nat) (ao:Option Addr) (l:List ByteArray) (hS:Strs w B ao l) (hh:h.size≤140737488355328) :
    Calls Tryz.prog 78 #[.agg #[.int .i64 a,.int .i64 k,.int .i64 v,.int .i64 r,.string h,.slice ao l.length cp]] w fun e w'=>
      e=.returned (if 255 < l.length∨512 < 20+h.size+isz l then .tuple #[.agg #[.int .i64 0,.int .i64 0,.int .i64 0,.int .i64 0,.string ⟨#[]⟩,.slice none 0 0],.int .i64 3] else .tuple #[.agg #[.int .i64 a,.int .i64 k,.int .i64 v,.int .i64 r,.string h,.slice ao l.length cp],.int .i64 0])∧Only (fun _=>False) w w':=by
  have hlen:=hS.len
  have HS:=hide hS
  clear hS
  have HP:=hide ((Pag.new w (.int .i64 a) (.int .i64 k) (.int .i64 v) (.int .i64 r) (.string h) (.slice ao l.length cp)).more (onlyA _ (.cells #[.int .i64 0,.int .i64 0,.int .i64 0,.int .i64 0,.string ⟨#[]⟩,.slice none 0 0] 37)))
  have HQ:=hide (Pag.new (w.alloc (.cells #[.int .i64 a,.int .i64 k,.int .i64 v,.int .i64 r,.string h,.slice ao l.length cp] 37)) (.int .i64 0) (.int .i64 0) (.int .i64 0) (.int .i64 0) (.string ⟨#[]⟩) (.slice none 0 0))
  have HO:=hide (o2 (onlyA w (.cells #[.int .i64 a,.int .i64 k,.int .i64 v,.int .i64 r,.string h,.slice ao l.length cp] 37)) (onlyA _ (.cells #[.int .i64 0,.int .i64 0,.int .i64 0,.int .i64 0,.string ⟨#[]⟩,.slice none 0 0] 37)))
  go_enter Tryz.func78,Tryz.ntmps78
  go_wp2_with fail
  refine (tooLong_any _ a k v r h B cp ao l (HS.out.more HO.out) hh).mono ?_
  rintro e w1 ⟨rfl,ho1⟩
  have HO1:=hide (o2 HO.out ho1)
  obtain ⟨p0,p1,p2,p3,p4,p5,g0,g1,g2,g3,g4,g5,gl⟩:=HP.out.more ho1
  obtain ⟨q0,q1,q2,q3,q4,q5,t0,t1,t2,t3,t4,t5,tl⟩:=HQ.out.more ho1
  have hsz:(w.alloc (.cells #[.int .i64 a,.int .i64 k,.int .i64 v,.int .i64 r,.string h,.slice ao l.length cp] 37)).heap.size=w.heap.size+1:=by simp
  rw [hsz] at q0 q1 q2 q3 q4 q5 t0 t1 t2 t3 t4 t5 tl
  clear ho1 hsz
  by_cases hc:255 < l.length∨512 < 20+h.size+isz l
  · have HR:=hide (decide_eq_true hc)
    rw [HR.out]
    go_wp2_with fail
    refine bodyPost_ret (results_page rfl rfl (Pag.six ⟨q0,q1,q2,q3,q4,q5,t0,t1,t2,t3,t4,t5,tl⟩ _ _ _ _ _ _)) rfl ?_
    exact ⟨rfl,HO1.out.trans (Only.six w1 (w.heap.size+1) _ _ _ _ _ _) (fun i hi e=>by omega)⟩
  · have HR:=hide (decide_eq_false hc)
    rw [HR.out]
    go_wp2_with fail
    refine bodyPost_ret (results_page rfl rfl (Pag.six ⟨q0,q1,q2,q3,q4,q5,t0,t1,t2,t3,t4,t5,tl⟩ _ _ _ _ _ _)) rfl ?_
    exact ⟨rfl,HO1.out.trans (Only.six w1 (w.heap.size+1) _ _ _ _ _ _) (fun i hi e=>by omega)⟩
theorem getD_of {l:List ByteArray} {j:Nat} (h:j < l.length):l.getD j ByteArray.empty=l[j]:=by simp [List.getD_eq_getElem?_getD,h]
set_option maxHeartbeats 800000 in
theorem inRange_any (w:World) (a k v r:Int) (h:ByteArray) (cp n:Nat) (ao:Option Addr) :
    Calls Tryz.prog 137 #[.agg #[.int .i64 a,.int .i64 k,.int .i64 v,.int .i64 r,.string h,.slice ao n cp]] w fun e w'=>e=.returned (.bool (decide (0≤a∧1≤k∧k≤3∧0≤v∧v≤255∧0≤r∧r≤4294967295)))∧Only (fun _=>False) w w':=by
  have HO:=hide (onlyA w (.cells #[.int .i64 a,.int .i64 k,.int .i64 v,.int .i64 r,.string h,.slice ao n cp] 37))
  go_enter Tryz.func137,Tryz.ntmps137
  go_wp2_with fail
  all_goals go_ret
  all_goals exact ⟨ret_bool (by rw [Bool.eq_iff_iff]; first | (simp; done) | (simp; omega)),HO.out⟩
set_option maxHeartbeats 800000 in
theorem hasItem_any (w:World) (a k v r i:Int) (h:ByteArray) (cp n:Nat) (ao:Option Addr) :
    Calls Tryz.prog 76 #[.agg #[.int .i64 a,.int .i64 k,.int .i64 v,.int .i64 r,.string h,.slice ao n cp],.int .i64 i] w fun e w'=>e=.returned (.bool (decide (0≤i∧i < n)))∧Only (fun _=>False) w w':=by
  have HO:=hide (onlyA w (.cells #[.int .i64 a,.int .i64 k,.int .i64 v,.int .i64 r,.string h,.slice ao n cp] 37))
  go_enter Tryz.func76,Tryz.ntmps76
  go_wp2_with fail
  all_goals go_ret
  all_goals exact ⟨ret_bool (by rw [Bool.eq_iff_iff]; first | (simp; done) | (simp; omega)),HO.out⟩
theorem add_at (b o n:Nat):(⟨b,o,none⟩:Addr).add n=⟨b,o+n,none⟩:=by
  unfold Addr.add
  split
  · rename_i h; rw [h]; rfl
  · rfl
def scells (l:List ByteArray):List Value:=l.map Value.string
theorem scells_append (l m:List ByteArray):scells (l++m)=scells l++scells m:=by simp [scells]
theorem scells_one (l:List ByteArray):∀ u ∈ scells l,u.oneCell'=true:=by
  intro u hu
  obtain ⟨s,_,rfl⟩:=List.mem_map.1 hu
  rfl
def Ls (w:World) (base:Nat) (v:Value) (l:List ByteArray):Prop:=w.ownsRow base 9 1 v l.length (scells l)
structure Fit (ao:Option Addr) (n cp:Nat):Prop where
  nil:ao=none→cp=0
  le:n≤cp
  big:cp≤maxLen
theorem Ls.nil (w:World) (base:Nat):Ls w base (.slice none 0 0) []:=World.ownsRow_nil _ _ _ _
theorem Ls.kept {S:Nat→Prop} {w w':World} {base:Nat} {v:Value} {l:List ByteArray} (h:Ls w base v l) (ho:Only S w w') (hS:∀ k,v.ownBlock=some k→¬ S k):Ls w' base v l:=by
  obtain ⟨h1,h2⟩:=h
  refine ⟨h1,?_⟩
  rcases h2 with h2 | ⟨g,cap,cur,hv,hg,hh,r⟩
  · exact .inl h2
  · subst hv
    exact .inr ⟨g,cap,cur,rfl,hg,by rw [ho.block g (Array.getElem?_eq_some_iff.1 hh).1 (hS g rfl)]; exact hh,r⟩
theorem Ls.strs {w:World} {base:Nat} {v:Value} {l:List ByteArray} (h:Ls w base v l) (hl:l.length≤8796093022207) (hs:∀ s ∈ l,s.size≤140737488355328) :
    ∃ B ao cp,v=.slice ao l.length cp∧Strs w B ao l∧Fit ao l.length cp∧(0 < l.length→base≤B)∧(ao=none∨ao=some ⟨B,0,none⟩):=by
  rcases h.2 with ⟨rfl,h0⟩ | ⟨g,cap,cur,rfl,hb,hg,hn,hm,_⟩
  · have e:l=[]:=List.eq_nil_of_length_eq_zero h0
    subst e
    exact ⟨0,none,0,rfl,Strs.nil _ _ _,⟨fun _=>rfl,by simp,by simp⟩,fun h=>absurd h (by simp),.inl rfl⟩
  · refine ⟨g,some ⟨g,0,none⟩,cap,rfl,⟨fun _=>⟨0,rfl,fun j hj=>?_⟩,fun _=>(Array.getElem?_eq_some_iff.1 hg).1,hl,hs⟩,⟨(fun h=>by cases h),hn,hm⟩,fun _=>hb,.inr rfl⟩
    rw [Nat.zero_add,World.ownsRow.cellAt h j (by omega)]
    simp [scells,hj]
theorem Tryz.infoStr:(Tryz.prog.info? 9).map (fun i=>(i.zero,i.size,i.bytes))=some (some (.string ⟨#[]⟩),1,16):=by kernel_rfl
theorem Strs.none_nil {w:World} {B:Nat} {l:List ByteArray} (h:Strs w B none l):l=[]:=by
  cases l with
  | nil=>rfl
  | cons s t=>
    obtain ⟨o,e,_⟩:=h.at_ (by simp)
    cases e
theorem append_strs (w:World) (ty:TypeId) (base:Nat) (v:Value) (l:List ByteArray) (h:Ls w base v l) (B cp:Nat) (ao:Option Addr) (m:List ByteArray) (hm:Strs w B ao m) (hf:Fit ao m.length cp) (hroom:l.length+m.length≤8796093022208) (hbase:base≤w.heap.size) :
    ∃ v' w',(Builtin.append_ #[35,35] ty #[v,.slice ao m.length cp]).run Tryz.prog w=.ok v' w'∧Ls w' base v' (l++m)∧Only (fun k=>base≤k) w w':=by
  obtain ⟨i0,hi,hz0,hz1,hz2⟩:=info_parts Tryz.infoStr
  cases ao with
  | none=>
    have e:=hm.none_nil
    subst e
    have hc:=hf.nil rfl
    subst hc
    refine ⟨v,w,run_append_owned_none (P:=Tryz.prog) w base 35 ty 9 i0 1 Tryz.underlying35 hi v l.length (scells l) h,by rw [List.append_nil]; exact h,Only.refl _ _⟩
  | some ad=>
    obtain ⟨v',w',hr,h2,h3,_,_⟩:=run_append_own_at (P:=Tryz.prog) w base 35 ty 9 i0 (.string ⟨#[]⟩) 1 16 Tryz.underlying35 hi hz0 hz1 hz2 rfl (by decide) v l.length (scells l) h ad m.length cp (scells m) (by simp [scells])
      (fun j u hu=>by
        have hj:j < m.length:=by have:=(List.getElem?_eq_some_iff.1 hu).1; simpa [scells] using this
        obtain ⟨o,e,hc⟩:=hm.at_ (by omega)
        cases e
        rw [add_at,hc j hj,← hu]
        simp [scells,hj]) (scells_one m) (by unfold maxLen; omega) (by omega) hbase
    refine ⟨v',w',hr,?_,Only.grown h3 (fun k hk=>(World.ownsRow.lt h k hk).1)⟩
    have e:l.length+m.length=(l++m).length:=by simp
    unfold Ls
    rw [scells_append,← e]
    exact h2
set_option maxHeartbeats 800000 in
theorem grow_any (w:World) (n:Nat) (hn:n≤8796093022208) :
    Calls Tryz.prog 157 #[.slice none 0 0,.int .i64 (n:Int)] w fun e w'=>∃ v,e=.returned v∧Ls w' w.heap.size v []∧Only (fun _=>False) w w':=by
  obtain ⟨i0,hi,hz0,hz1,hz2⟩:=info_parts Tryz.infoStr
  by_cases h0:n=0
  · subst h0
    go_enter Tryz.func157,Tryz.ntmps157
    go_wp2_with fail
    go_ret
    exact ⟨_,rfl,Ls.nil _ _,Only.refl _ _⟩
  · have hp:(0:Int) < (n:Int):=by omega
    have hr:=Lib.run_append_nil_zeros (P:=Tryz.prog) w 35 3 35 9 i0 (.string ⟨#[]⟩) .i64 .i64 Tryz.underlying35 Tryz.underlying3 hi hz0 n (by omega) (by omega) (by omega) (by rw [hz2]; omega)
    have HR:=hide hr
    clear hr
    go_enter Tryz.func157,Tryz.ntmps157
    go_wp2_with (at_builtin; go_must (refine Lib.wpList_append_run _ rfl _ _ _ _ rfl _ _ rfl rfl _ _ HR.out ?_))
    go_ret
    refine ⟨_,rfl,⟨rfl,.inr ⟨w.heap.size,_,_,rfl,Nat.le_refl _,heap_alloc_new w.drew _,Nat.zero_le _,grownCap_le_maxLen w n 0 9 (by unfold maxLen; omega),?_,rfl⟩⟩,(Only.drew _ w).trans (Only.alloc (fun _=>False) _ _) (fun _ _ h=>h)⟩
    have hge:=grownCap_ge w n 0 9
    simp only [Array.size_append,size_zeroCells]
    show n * 1+(grownCap w n 0 9 - n) * 1=grownCap w n 0 9 * 1
    omega
def catTo (L:Nat→List ByteArray):Nat→List ByteArray
  | 0=>[]
  | k+1=>catTo L k++L k
theorem catTo_le (L:Nat→List ByteArray) (k n:Nat) (h:k≤n):(catTo L k).length≤(catTo L n).length:=by
  induction n with
  | zero => have:k=0:=by omega
            subst this; exact Nat.le_refl _
  | succ n ih=>
    by_cases e:k=n+1
    · subst e; exact Nat.le_refl _
    · have:=ih (by omega)
      simp only [catTo,List.length_append]
      omega
set_option maxHeartbeats 800000 in
theorem concat_any (w:World) (b n c:Nat) (A:Nat→Option Addr) (C B:Nat→Nat) (L:Nat→List ByteArray) (hc:∀ j,j < n→w.cell? ⟨b,j,none⟩=some (.slice (A j) (L j).length (C j)))
    (hL:∀ j,j < n→Strs w (B j) (A j) (L j)) (hF:∀ j,j < n→Fit (A j) (L j).length (C j)) (hn:n≤3) (hb:b < w.heap.size) (hroom:(catTo L n).length≤8796093022208) :
    Calls Tryz.prog 129 #[.slice (some ⟨b,0,none⟩) n c] w fun e w'=>∃ v,e=.returned v∧Ls w' w.heap.size v (catTo L n)∧Only (fun _=>False) w w':=by
  have HC:=hide hc
  have HL:=hide hL
  have HF:=hide hF
  have HR:=hide hroom
  clear hc hL hF hroom
  have HM:Hid (∀ k,k≤n→(catTo L k).length≤8796093022208):=fun k hk=>Nat.le_trans (catTo_le L k n hk) HR.out
  go_enter Tryz.func129,Tryz.ntmps129
  go_wp2_with fail
  go_loop [3,11] (fun x y=>∃ (j m:Nat),j≤n∧y=.int .i64 (j:Int)∧x=.int .i64 (m:Int)∧m≤8796093022208∧Hid (m=(catTo L j).length)) (fun _ y=>n - (intOf y).toNat)
  case atStart=>exact ⟨0,0,by omega,rfl,rfl,by omega,hide rfl⟩
  case round=>
    obtain ⟨j,m,hj,rfl,rfl,hm,HQ⟩:=hrel
    by_cases hlt:j < n
    · have hcj:=HC.out j hlt
      have hm2:=HM.out (j+1) hlt
      have HT:Hid ((m:Int)+((L j).length:Int)=(((catTo L (j+1)).length:Nat):Int)):=by
        unfold Hid
        simp only [catTo,List.length_append]
        have:=HQ.out
        omega
      have hmb:(m:Int)+((L j).length:Int)≤8796093022208:=by have:=HT.out; omega
      have hj1:(j:Int) < (n:Int):=by omega
      obtain ⟨lj,hlj⟩:=exq ((L j).length)
      rw [hlj] at hcj HT hmb
      clear hlj
      clear hm2
      go_wp2_with fail
      go_round
      case rel=>exact ⟨j+1,(catTo L (j+1)).length,by omega,by go_num,by rw [HT.out],HM.out _ hlt,hide rfl⟩
      case measure=>simp [intOf]; omega
    · have ej:j=n:=by omega
      subst ej
      go_wp2_with fail
      refine (grow_any _ m hm).mono ?_
      rintro e w1 ⟨v1,rfl,hl1,ho1⟩
      have HL1:=hide hl1
      have HO1:=hide ho1
      clear hl1 ho1
      go_wp2_with fail
      go_loopw [6,27] (fun x y wr=>∃ (i:Nat),i≤j∧y=.int .i64 (i:Int)∧Hid (Ls wr w.heap.size x (catTo L i))∧Hid (Only (fun _=>False) w wr)) (fun _ y _=>j - (intOf y).toNat)
      case atStart=>exact ⟨0,by omega,rfl,HL1,HO1⟩
      case round=>
        obtain ⟨i,hi,rfl,HX,HO⟩:=hrel
        by_cases hlt2:i < j
        · have hcj:=(HO.out.cell (p:=⟨b,i,none⟩) hb (fun h=>h)).trans (HC.out i hlt2)
          obtain ⟨v2,w2,hr2,hl2,ho2⟩:=append_strs wr 35 w.heap.size _ _ HX.out (B i) (C i) (A i) (L i) ((HL.out i hlt2).more HO.out) (HF.out i hlt2) (by have:=HM.out (i+1) hlt2; simp only [catTo,List.length_append] at this; omega) HO.out.size
          have HR2:=hide hr2
          have HL2:Hid (Ls w2 w.heap.size v2 (catTo L (i+1))):=hl2
          have HO2:Hid (Only (fun _=>False) w w2):=HO.out.trans ho2 (fun k hk e=>by omega)
          clear hr2 hl2 ho2
          have hj1:(i:Int) < (j:Int):=by omega
          go_wp2_with (at_builtin; go_must (refine Lib.wpList_append_run _ rfl _ _ _ _ rfl _ _ rfl rfl _ _ HR2.out ?_))
          go_roundw
          case rel=>exact ⟨i+1,by omega,by go_num,HL2,HO2⟩
          case measure=>simp [intOf]; omega
        · have ei:i=j:=by omega
          subst ei
          go_wp2_with fail
          go_ret
          exact ⟨_,rfl,HX.out,HO.out⟩
theorem clone_any (w:World) (B cp:Nat) (ao:Option Addr) (l:List ByteArray) (h:Strs w B ao l) :
    Calls Tryz.prog 77 #[.slice ao l.length cp] w fun e w'=>∃ v,e=.returned v∧Ls w' w.heap.size v l∧Only (fun _=>False) w w':=by
  have only:∀ w',Below w.heap.size w w'→Only (fun _=>False) w w':=fun w' hb=>⟨hb.os,hb.tape,hb.output,hb.size,fun k hk _=>hb.block k hk⟩
  cases ao with
  | none=>
    have e:=h.none_nil
    subst e
    refine (Tryz.slices_Clone_string_nil _ cp w).mono ?_
    rintro e w' ⟨rfl,rfl⟩
    exact ⟨_,rfl,Ls.nil _ _,Only.refl _ _⟩
  | some ad=>
    by_cases h0:l.length=0
    · have e:l=[]:=List.eq_nil_of_length_eq_zero h0
      subst e
      refine (Tryz.slices_Clone_string_zero ad cp w).mono ?_
      rintro e w' ⟨v,rfl,ho,_,hb⟩
      exact ⟨v,rfl,ho,only _ hb⟩
    · obtain ⟨o,e,hc⟩:=h.at_ (by omega)
      cases e
      have hl:=h.len
      refine (Tryz.slices_Clone_string B o l.length cp l w (Nat.le_refl _) (by omega) (fun j hj=>by rw [hc j hj,getD_of hj])).mono ?_
      rintro e w' ⟨v,rfl,ho,_,hb⟩
      rw [List.take_of_length_le (Nat.le_refl _)] at ho
      exact ⟨v,rfl,ho,only _ hb⟩
def Res (w w':World) (e:Ending) (p:Pg) (c:Int):Prop:=∃ B ao cp,e=.returned (.tuple #[.agg #[.int .i64 p.lsn,.int .i64 p.kind,.int .i64 p.level,.int .i64 p.right,.string p.high,.slice ao p.items.length cp],.int .i64 c]) ∧
  Strs w' B ao p.items∧Fit ao p.items.length cp∧Only (fun _=>False) w w'∧(0 < p.items.length→w.heap.size≤B)
theorem Res.none {w w':World} (c:Int) (ho:Only (fun _=>False) w w'):Res w w' (.returned (.tuple #[.agg #[.int .i64 0,.int .i64 0,.int .i64 0,.int .i64 0,.string ⟨#[]⟩,.slice none 0 0],.int .i64 c])) .none c :=
  ⟨0,Option.none,0,rfl,Strs.nil _ _ _,⟨fun _=>rfl,by simp [Pg.none],by simp⟩,ho,fun h=>absurd h (by simp [Pg.none])⟩
def Or3 (w w':World) (e:Ending) (c:Prop) (p:Pg):Prop:=(c→Res w w' e .none 3)∧(¬ c→Res w w' e p 0)
theorem Or3.yes {w w':World} {e:Ending} {c:Prop} {p:Pg} (hc:c) (h:Res w w' e .none 3):Or3 w w' e c p:=⟨fun _=>h,fun n=>absurd hc n⟩
theorem Or3.no {w w':World} {e:Ending} {c:Prop} {p:Pg} (hc:¬ c) (h:Res w w' e p 0):Or3 w w' e c p:=⟨fun n=>absurd n hc,fun _=>h⟩
theorem Strs.take {w:World} {B:Nat} {ao:Option Addr} {l:List ByteArray} (h:Strs w B ao l) (k:Nat):Strs w B ao (l.take k) :=
  ⟨fun h0=>by
    have hl:0 < l.length:=by simp only [List.length_take] at h0; omega
    obtain ⟨o,e,hc⟩:=h.at_ hl
    exact ⟨o,e,fun j hj=>by rw [List.getElem_take]; exact hc j (by simp only [List.length_take] at hj; omega)⟩,fun h0=>h.lt (by simp only [List.length_take] at h0; omega),by have:=h.len; simp only [List.length_take]; omega,fun s hs=>h.size s (List.mem_of_mem_take hs)⟩
theorem Strs.drop {w:World} {B b o:Nat} {l:List ByteArray} (h:Strs w B (some ⟨b,o,Option.none⟩) l) (k:Nat) (ao:Option Addr) (ha:k < l.length→ao=some ⟨b,o+k,Option.none⟩):Strs w B ao (l.drop k) :=
  ⟨fun h0=>by
    have hl:k < l.length:=by simp only [List.length_drop] at h0; omega
    obtain ⟨o',e,hc⟩:=h.at_ (by omega)
    cases e
    exact ⟨o+k,ha hl,fun j hj=>by rw [List.getElem_drop,Nat.add_assoc]; exact hc (k+j) (by simp only [List.length_drop] at hj; omega)⟩,fun h0=>h.lt (by simp only [List.length_drop] at h0; omega),by have:=h.len; simp only [List.length_drop]; omega,fun s hs=>h.size s (List.mem_of_mem_drop hs)⟩
theorem Pag.set5 {w:World} {b:Nat} {v0 v1 v2 v3 v4 v5:Value} (h:Pag w b v0 v1 v2 v3 v4 v5) (x:Value):Pag (w.setCell ⟨b,5,none⟩ x) b v0 v1 v2 v3 v4 x:=by
  have oth:∀ (j:Nat) (y:Value),5≠j→w.cell? ⟨b,j,none⟩=some y→(w.setCell ⟨b,5,none⟩ x).cell? ⟨b,j,none⟩=some y:=fun j y hij hx=>(World.cell?_setCell_other _ _ _ _ (by intro e; injection e with _ e2; exact hij e2)).trans hx
  exact ⟨oth 0 _ (by omega) h.c0,oth 1 _ (by omega) h.c1,oth 2 _ (by omega) h.c2,oth 3 _ (by omega) h.c3,oth 4 _ (by omega) h.c4,World.cell?_setCell_same _ _ _ h.c5,by simpa using h.f0,by simpa using h.f1,by simpa using h.f2,by simpa using h.f3,by simpa using h.f4,by simpa using h.f5,by simpa using h.lt⟩
theorem Strs.one (w:World) (s:ByteArray) (hs:s.size≤140737488355328):Strs (w.alloc (.cells #[.string s] 9)) w.heap.size (some ⟨w.heap.size,0,none⟩) [s] :=
  ⟨fun _=>⟨0,rfl,fun j hj=>by
    have:j=0:=by simp at hj; omega
    subst this
    simp⟩,fun _=>by simp,by simp,fun t ht=>by simp at ht; rw [ht]; exact hs⟩
theorem cat3 (W:World) (b:Nat) (A0 A1 A2:Option Addr) (C0 C1 C2 B0 B1 B2 n0 n1 n2:Nat) (l0 l1 l2:List ByteArray) (e0:n0=l0.length) (e1:n1=l1.length) (e2:n2=l2.length)
    (c0:W.cell? ⟨b,0,none⟩=some (.slice A0 n0 C0)) (c1:W.cell? ⟨b,1,none⟩=some (.slice A1 n1 C1)) (c2:W.cell? ⟨b,2,none⟩=some (.slice A2 n2 C2))
    (h0:Strs W B0 A0 l0) (h1:Strs W B1 A1 l1) (h2:Strs W B2 A2 l2) (f0:Fit A0 n0 C0) (f1:Fit A1 n1 C1) (f2:Fit A2 n2 C2) (hb:b < W.heap.size) (hroom:n0+n1+n2≤8796093022208) :
    Calls Tryz.prog 129 #[.slice (some ⟨b,0,none⟩) 3 3] W fun e w'=>∃ v,e=.returned v∧Ls w' W.heap.size v (l0++l1++l2)∧Only (fun _=>False) W w':=by
  subst e0
  subst e1
  subst e2
  have h:=concat_any W b 3 3 (fun j=>match j with | 0=>A0 | 1=>A1 | _=>A2) (fun j=>match j with | 0=>C0 | 1=>C1 | _=>C2) (fun j=>match j with | 0=>B0 | 1=>B1 | _=>B2) (fun j=>match j with | 0=>l0 | 1=>l1 | _=>l2)
    (fun j hj=>match j,hj with | 0,_=>c0 | 1,_=>c1 | 2,_=>c2) (fun j hj=>match j,hj with | 0,_=>h0 | 1,_=>h1 | 2,_=>h2) (fun j hj=>match j,hj with | 0,_=>f0 | 1,_=>f1 | 2,_=>f2) (by omega) hb (by simp [catTo]; omega)
  simpa [catTo] using h
def boxes (w:World) (a k v r:Int) (h:ByteArray) (sl:Value):World:=(w.alloc (.cells #[.int .i64 a,.int .i64 k,.int .i64 v,.int .i64 r,.string h,sl] 37)).alloc (.cells #[.int .i64 0,.int .i64 0,.int .i64 0,.int .i64 0,.string ⟨#[]⟩,.slice none 0 0] 37)
theorem boxes_only (w:World) (a k v r:Int) (h:ByteArray) (sl:Value):Only (fun _=>False) w (boxes w a k v r h sl):=o2 (onlyA _ _) (onlyA _ _)
theorem boxes_size (w:World) (a k v r:Int) (h:ByteArray) (sl:Value):(boxes w a k v r h sl).heap.size=w.heap.size+1+1:=by simp [boxes]
theorem boxes_one (w:World) (a k v r:Int) (h:ByteArray) (sl:Value):Pag (boxes w a k v r h sl) w.heap.size (.int .i64 a) (.int .i64 k) (.int .i64 v) (.int .i64 r) (.string h) sl:=(Pag.new w _ _ _ _ _ _).more (onlyA _ _)
theorem boxes_two (w:World) (a k v r:Int) (h:ByteArray) (sl:Value):Pag (boxes w a k v r h sl) (w.heap.size+1) (.int .i64 0) (.int .i64 0) (.int .i64 0) (.int .i64 0) (.string ⟨#[]⟩) (.slice none 0 0):=by
  have h1:=Pag.new (w.alloc (.cells #[.int .i64 a,.int .i64 k,.int .i64 v,.int .i64 r,.string h,sl] 37)) (.int .i64 0) (.int .i64 0) (.int .i64 0) (.int .i64 0) (.string ⟨#[]⟩) (.slice none 0 0)
  have e:(w.alloc (.cells #[.int .i64 a,.int .i64 k,.int .i64 v,.int .i64 r,.string h,sl] 37)).heap.size=w.heap.size+1:=by simp
  rw [e] at h1
  exact h1
structure Aft (w w5:World) (a k v r:Int) (h:ByteArray) (sl:Value) (B5:Nat) (ao5:Option Addr) (cp5:Nat) (nl:List ByteArray):Prop where
  one:Pag w5 w.heap.size (.int .i64 a) (.int .i64 k) (.int .i64 v) (.int .i64 r) (.string h) sl
  two:Pag w5 (w.heap.size+1) (.int .i64 0) (.int .i64 0) (.int .i64 0) (.int .i64 0) (.string ⟨#[]⟩) (.slice none 0 0)
  strs:Strs w5 B5 ao5 nl
  fit:Fit ao5 nl.length cp5
  only:Only (fun _=>False) w w5
  new:0 < nl.length→w.heap.size+1 < B5
theorem Aft.store {w w5:World} {a k v r:Int} {h:ByteArray} {sl:Value} {B5:Nat} {ao5:Option Addr} {cp5:Nat} {nl:List ByteArray} (H:Aft w w5 a k v r h sl B5 ao5 cp5 nl) (x:Value):Aft w (w5.setCell ⟨w.heap.size,5,none⟩ x) a k v r h x B5 ao5 cp5 nl:=by
  have ho:Only (fun k=>k=w.heap.size) w5 (w5.setCell ⟨w.heap.size,5,none⟩ x):=Only.setCell w5 ⟨w.heap.size,5,none⟩ x rfl
  exact ⟨H.one.set5 x,H.two.kept ho (by omega),H.strs.kept ho (fun h=>by have:=H.new h; omega),H.fit,H.only.trans ho (fun i hi e=>by omega),H.new⟩
theorem Aft.more {w w5 w6:World} {a k v r:Int} {h:ByteArray} {sl:Value} {B5:Nat} {ao5:Option Addr} {cp5:Nat} {nl:List ByteArray} (H:Aft w w5 a k v r h sl B5 ao5 cp5 nl) (ho:Only (fun _=>False) w5 w6):Aft w w6 a k v r h sl B5 ao5 cp5 nl :=
  ⟨H.one.more ho,H.two.more ho,H.strs.more ho,H.fit,o2 H.only ho,H.new⟩
theorem Aft.setItem {w w5:World} {a k v r:Int} {h:ByteArray} {sl:Value} {g cap base:Nat} {l:List ByteArray} (H:Aft w w5 a k v r h sl g (some ⟨g,0,none⟩) cap l) (hL:Ls w5 base (.slice (some ⟨g,0,none⟩) l.length cap) l) (i:Nat) (it:ByteArray) (hit:it.size≤140737488355328) (h0:0 < l.length) :
    Aft w (w5.setCell ⟨g,i,none⟩ (.string it)) a k v r h sl g (some ⟨g,0,none⟩) cap (l.set i it):=by
  have hs:=(World.ownsRow.stored hL i (.string it)).1
  have e:(scells l).set i (.string it)=scells (l.set i it):=by unfold scells; rw [List.map_set]
  rw [e] at hs
  have hL2:Ls (w5.setCell ⟨g,i,none⟩ (.string it)) base (.slice (some ⟨g,0,none⟩) l.length cap) (l.set i it):=by unfold Ls; rw [List.length_set]; exact hs
  obtain ⟨B5,ao5,cp5,hv,hS5,hF5,hB5,hO5⟩:=hL2.strs (by rw [List.length_set]; exact H.strs.len) (fun s hs=>by
    rcases List.mem_or_eq_of_mem_set hs with hs | rfl
    · exact H.strs.size s hs
    · exact hit)
  rcases hO5 with rfl | rfl
  · cases hv
  · simp at hv
    obtain ⟨rfl,rfl⟩:=hv
    have ho:Only (fun k=>k=g) w5 (w5.setCell ⟨g,i,none⟩ (.string it)):=Only.setCell w5 ⟨g,i,none⟩ _ rfl
    have hn:=H.new h0
    exact ⟨H.one.kept ho (by omega),H.two.kept ho (by omega),hS5,hF5,H.only.trans ho (fun i hi e=>by omega),fun _=>hn⟩
theorem Aft.res {w w5:World} {a k v r:Int} {h:ByteArray} {sl:Value} {B5:Nat} {ao5:Option Addr} {cp5:Nat} {nl:List ByteArray} (H:Aft w w5 a k v r h sl B5 ao5 cp5 nl) (v0 v1 v2 v3 v4 v5:Value) (c:Int) (w6:World)
    (hw:w6=((((((w5.setCell ⟨w.heap.size+1,0,none⟩ v0).setCell ⟨w.heap.size+1,1,none⟩ v1).setCell ⟨w.heap.size+1,2,none⟩ v2).setCell ⟨w.heap.size+1,3,none⟩ v3).setCell ⟨w.heap.size+1,4,none⟩ v4).setCell ⟨w.heap.size+1,5,none⟩ v5)) :
    Res w w6 (.returned (.tuple #[.agg #[.int .i64 a,.int .i64 k,.int .i64 v,.int .i64 r,.string h,.slice ao5 nl.length cp5],.int .i64 c])) ⟨a,k,v,r,h,nl⟩ c∧Only (fun _=>False) w w6:=by
  have ho:=Only.six w5 (w.heap.size+1) v0 v1 v2 v3 v4 v5
  rw [← hw] at ho
  have ho2:Only (fun _=>False) w w6:=H.only.trans ho (fun i hi e=>by omega)
  exact ⟨⟨B5,ao5,cp5,rfl,H.strs.kept ho (fun h=>by have:=H.new h; omega),H.fit,ho2,fun h=>by have:=H.new h; omega⟩,ho2⟩
theorem put_cat (w:World) (a k v r:Int) (h:ByteArray) (B b o cp:Nat) (l:List ByteArray) (i:Nat) (it:ByteArray) (hS:Strs w B (some ⟨b,o,none⟩) l) (hF:Fit (some ⟨b,o,none⟩) l.length cp) (hit:it.size≤140737488355328) (hi:i≤l.length) (hlm:l.length≤8796093021952) (A2:Option Addr) (hA:i < l.length→A2=some ⟨b,o+i,none⟩) (hA0:A2≠none) (W:World)
    (hW:Only (fun _=>False) (((boxes w a k v r h (.slice (some ⟨b,o,none⟩) l.length cp)).alloc (.cells #[.string it] 9)).alloc (.cells #[.slice (some ⟨b,o,none⟩) i cp,.slice (some ⟨w.heap.size+1+1,0,none⟩) 1 1,.slice A2 (l.length - i) (cp - i)] 35)) W) :
    Calls Tryz.prog 129 #[.slice (some ⟨w.heap.size+1+1+1,0,none⟩) 3 3] W fun e w'=>∃ B5 ao5 cp5,e=.returned (.slice ao5 (l.take i++it :: l.drop i).length cp5)∧w'.cell? ⟨w.heap.size,5,none⟩=some (.slice (some ⟨b,o,none⟩) l.length cp)∧w'.frozen? ⟨w.heap.size,5,none⟩=false∧Hid (Aft w w' a k v r h (.slice (some ⟨b,o,none⟩) l.length cp) B5 ao5 cp5 (l.take i++it :: l.drop i)):=by
  have hlen:=hS.len
  have hB1:=boxes_one w a k v r h (.slice (some ⟨b,o,none⟩) l.length cp)
  have hB2:=boxes_two w a k v r h (.slice (some ⟨b,o,none⟩) l.length cp)
  have hcp:=hF.le
  have hbig:=hF.big
  obtain ⟨W0,hW0⟩:=exq (boxes w a k v r h (.slice (some ⟨b,o,none⟩) l.length cp))
  have hz:=boxes_size w a k v r h (.slice (some ⟨b,o,none⟩) l.length cp)
  have ho0:=boxes_only w a k v r h (.slice (some ⟨b,o,none⟩) l.length cp)
  rw [hW0] at hW hz ho0 hB1 hB2
  have hS0:=hS.more ho0
  have hS1:=Strs.one W0 it hit
  rw [hz] at hS1
  have hS2:=(hS0.more (o2 (onlyA _ _) (onlyA _ _))).more hW
  have hS3:=(hS1.more (onlyA _ _)).more hW
  have hlt:w.heap.size+1+1+1 < ((W0.alloc (.cells #[.string it] 9)).alloc (.cells #[.slice (some ⟨b,o,none⟩) i cp,.slice (some ⟨w.heap.size+1+1,0,none⟩) 1 1,.slice A2 (l.length - i) (cp - i)] 35)).heap.size:=by simp; omega
  have hz1:(W0.alloc (.cells #[.string it] 9)).heap.size=w.heap.size+1+1+1:=by simp; omega
  have hc:∀ j (x:Value),#[Value.slice (some ⟨b,o,none⟩) i cp,.slice (some ⟨w.heap.size+1+1,0,none⟩) 1 1,.slice A2 (l.length - i) (cp - i)][j]?=some x→W.cell? ⟨w.heap.size+1+1+1,j,none⟩=some x:=by
    intro j x hx
    rw [hW.cell (p:=⟨w.heap.size+1+1+1,j,none⟩) hlt (fun h=>h),← hz1]
    simpa using hx
  have key:=cat3 W (w.heap.size+1+1+1) (some ⟨b,o,none⟩) (some ⟨w.heap.size+1+1,0,none⟩) A2 cp 1 (cp - i) B (w.heap.size+1+1) B i 1 (l.length - i) (l.take i) [it] (l.drop i)
    (by simp; omega) rfl (by simp) (hc 0 _ rfl) (hc 1 _ rfl) (hc 2 _ rfl) (hS2.take i) hS3 (hS2.drop i _ hA)
    ⟨(fun h=>by cases h),by omega,hbig⟩ ⟨(fun h=>by cases h),by omega,(by unfold maxLen; omega)⟩ ⟨(fun h=>absurd h hA0),by omega,by omega⟩ (Nat.lt_of_lt_of_le hlt hW.size) (by omega)
  have e3:l.take i++[it]++l.drop i=l.take i++it :: l.drop i:=by simp
  rw [e3] at key
  have hsz:∀ s ∈ l.take i++it :: l.drop i,s.size≤140737488355328:=by
    intro s hs
    rcases List.mem_append.1 hs with hs | hs
    · exact hS.size s (List.mem_of_mem_take hs)
    · rcases List.mem_cons.1 hs with rfl | hs
      · exact hit
      · exact hS.size s (List.mem_of_mem_drop hs)
  have hln:(l.take i++it :: l.drop i).length=l.length+1:=by simp; omega
  refine Calls.mono key ?_
  rintro e w5 ⟨v5,rfl,hl5,ho5⟩
  obtain ⟨B5,ao5,cp5,rfl,hS5,hF5,hB5,_⟩:=hl5.strs (by omega) hsz
  have hoo:=o2 (o2 (onlyA W0 (.cells #[.string it] 9)) (onlyA _ _)) (o2 hW ho5)
  have hP:=hB1.more hoo
  have hWs:=hW.size
  exact ⟨B5,ao5,cp5,rfl,hP.c5,hP.f5,⟨hP,hB2.more hoo,hS5,hF5,o2 ho0 hoo,fun h=>by have:=hB5 h; omega⟩⟩
end Go.Proofs.YtajjakljheafjaaGreat
