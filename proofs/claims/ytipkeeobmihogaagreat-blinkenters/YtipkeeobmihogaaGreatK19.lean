/- Parts. -/
import Derived.Deep.LoopGhost
import Derived.Test.YtipkeeobmihogaaGreatK11
set_option maxRecDepth 100000
namespace Go.Proofs.YtipkeeobmihogaaGreat
open Go.RowKit
structure XR (w:World) (x:Nat) (s:ByteArray) (p:Nat) (y:Int):Prop where
  c0:w.cell? ⟨x,0,none⟩=some (.string s)
  c1:w.cell? ⟨x,1,none⟩=some (.int .i64 (p:Int))
  c2:w.cell? ⟨x,2,none⟩=some (.int .i64 y)
  f0:w.frozen? ⟨x,0,none⟩=false
  f1:w.frozen? ⟨x,1,none⟩=false
  f2:w.frozen? ⟨x,2,none⟩=false
  lt:x < w.heap.size
theorem XR.kept {S:Nat→Prop} {w w':World} {x:Nat} {s:ByteArray} {p:Nat} {y:Int} (h:XR w x s p y) (ho:Only S w w') (hr:¬ S x):XR w' x s p y :=
  ⟨(ho.cell (p:=⟨x,0,none⟩) h.lt hr).trans h.c0,(ho.cell (p:=⟨x,1,none⟩) h.lt hr).trans h.c1,(ho.cell (p:=⟨x,2,none⟩) h.lt hr).trans h.c2,(ho.frozen (p:=⟨x,0,none⟩) h.lt hr).trans h.f0,(ho.frozen (p:=⟨x,1,none⟩) h.lt hr).trans h.f1,(ho.frozen (p:=⟨x,2,none⟩) h.lt hr).trans h.f2,Nat.lt_of_lt_of_le h.lt ho.size⟩
theorem XR.set1 {w:World} {x:Nat} {s:ByteArray} {p:Nat} {y:Int} (h:XR w x s p y) (q:Nat):XR (w.setCell ⟨x,1,none⟩ (.int .i64 (q:Int))) x s q y :=
  ⟨(World.cell?_setCell_other _ _ _ _ (by simp)).trans h.c0,World.cell?_setCell_same _ _ _ h.c1,(World.cell?_setCell_other _ _ _ _ (by simp)).trans h.c2,by simpa using h.f0,by simpa using h.f1,by simpa using h.f2,by simpa using h.lt⟩
theorem XR.set2 {w:World} {x:Nat} {s:ByteArray} {p:Nat} {y:Int} (h:XR w x s p y) (q:Int):XR (w.setCell ⟨x,2,none⟩ (.int .i64 q)) x s p q :=
  ⟨(World.cell?_setCell_other _ _ _ _ (by simp)).trans h.c0,(World.cell?_setCell_other _ _ _ _ (by simp)).trans h.c1,World.cell?_setCell_same _ _ _ h.c2,by simpa using h.f0,by simpa using h.f1,by simpa using h.f2,by simpa using h.lt⟩
theorem XR.new (w:World) (s:ByteArray):XR (w.alloc (.cells #[.string s,.int .i64 0,.int .i64 0] 110)) w.heap.size s 0 0 :=
  ⟨by simp,by simp,by simp,by simp,by simp,by simp,by simp⟩
theorem XR.drew {w:World} {x:Nat} {s:ByteArray} {p:Nat} {y:Int} (h:XR w x s p y):XR w.drew x s p y:=h.kept (Only.drew (fun _=>False) w) (fun h=>h)
theorem wrong_any (w:World) (x:Nat) (s:ByteArray) (p:Nat) (y z:Int) (h:XR w x s p y) :
    Calls Tryz.prog 98 #[.pointer (some ⟨x,0,none⟩),.int .i64 z] w fun e w'=>e=.returned (.int .i64 0)∧w'=w.setCell ⟨x,2,none⟩ (.int .i64 z):=by
  obtain ⟨c0,c1,c2,f0,f1,f2,hl⟩:=h
  go_enter Tryz.func98,Tryz.ntmps98
  go_wp2
  go_ret
  exact ⟨rfl,rfl⟩
theorem xnum_err (w:World) (x:Nat) (s:ByteArray) (p:Nat) (y z:Int) (h:XR w x s p y) (hy:(y != 0)=true) :
    Calls Tryz.prog 62 #[.pointer (some ⟨x,0,none⟩),.int .i64 z] w fun e w'=>e=.returned (.int .i64 0)∧w'=w:=by
  obtain ⟨c0,c1,c2,f0,f1,f2,hl⟩:=h
  go_enter Tryz.func62,Tryz.ntmps62
  go_wp2
  go_ret
  exact ⟨rfl,rfl⟩
theorem xend_err (w:World) (x:Nat) (s:ByteArray) (p:Nat) (y:Int) (h:XR w x s p y) (hy:(y == 0)=false) :
    Calls Tryz.prog 64 #[.pointer (some ⟨x,0,none⟩)] w fun e w'=>e=.returned (.int .i64 y)∧w'=w.drew:=by
  obtain ⟨c0,c1,c2,f0,f1,f2,hl⟩:=h
  go_enter Tryz.func64,Tryz.ntmps64
  go_wp2
  go_region
  go_wp2
  go_ret
  exact ⟨rfl,rfl⟩
theorem xend_ok (w:World) (x:Nat) (s:ByteArray) (p:Nat) (h:XR w x s p 0) (hp:p≤s.size) :
    Calls Tryz.prog 64 #[.pointer (some ⟨x,0,none⟩)] w fun e w'=>e=.returned (.int .i64 (if s.size - p=0 then 0 else 12))∧w'=w.drew:=by
  obtain ⟨c0,c1,c2,f0,f1,f2,hl⟩:=h
  by_cases hz:p < s.size
  · rw [if_neg (by omega)]
    go_enter Tryz.func64,Tryz.ntmps64
    go_wp2
    go_region
    go_wp2
    go_ret
    exact ⟨rfl,rfl⟩
  · rw [if_pos (by omega)]
    go_enter Tryz.func64,Tryz.ntmps64
    go_wp2
    go_region
    go_wp2
    go_ret
    exact ⟨rfl,rfl⟩
theorem follows_nil (w:World) (a1 a2:Option Addr) (c1 n2 c2:Nat) (h e:En) :
    Calls Tryz.prog 106 #[cvv (.slice a1 0 c1) (.slice a2 n2 c2) h,e.agg] w fun x w'=>x=.returned (.bool (decide (e=noE)))∧Only (fun _=>False) w w':=by
  have HL:Hid (∀ W,Calls Tryz.prog 112 #[.agg #[.string e.key,.int .i64 e.page,.int .i64 e.slot]] W fun x w'=>x=.returned (.bool (decide (e=noE)))∧Only (fun _=>False) W w'):=fun W=>isLeast_any e W
  have HX:=hide (ce_new w (.slice a1 0 c1) (.slice a2 n2 c2) h e)
  obtain ⟨bb,hbb⟩:=exq (decide (e=noE))
  rw [hbb] at HL ⊢
  clear hbb
  unfold cvv En.agg
  go_enter Tryz.func106,Tryz.ntmps106
  go_upto_region 1 with fail
  obtain ⟨W0,hW0⟩:=exq ((w.alloc (.cells #[.slice a1 0 c1,.slice a2 n2 c2,.string h.key,.int .i64 h.page,.int .i64 h.slot] 85)).alloc (.cells #[.string e.key,.int .i64 e.page,.int .i64 e.slot] 41))
  rw [hW0] at HX ⊢
  clear hW0
  have q0:=HX.out.1.c0
  obtain ⟨d0,d1,d2,_⟩:=HX.out.2.1
  go_wp2_with fail
  refine (HL.out _).mono ?_
  rintro x w1 ⟨rfl,ho⟩
  have HO1:=hide (o2 HX.out.2.2 ho)
  clear ho
  go_wp2_with fail
  go_ret
  exact ⟨rfl,HO1.out⟩
set_option maxHeartbeats 3200000 in
theorem follows_one (w:World) (B o n c1 n2 c2:Nat) (a2:Option Addr) (h e la:En) (hE:Eb w B (o+n * 3) la) (hn:n≤8796093021952) :
    Calls Tryz.prog 106 #[cvv (.slice (some ⟨B,o,none⟩) (n+1) c1) (.slice a2 n2 c2) h,e.agg] w fun x w'=>x=.returned (.bool (decide (la.lt e) && blw h e))∧Only (fun _=>False) w w':=by
  have HM:Hid (∀ W,Calls Tryz.prog 105 #[.agg #[.string e.key,.int .i64 e.page,.int .i64 e.slot],.agg #[.string la.key,.int .i64 la.page,.int .i64 la.slot]] W fun x w'=>x=.returned (.int .i64 (cmpE e la))∧Only (fun _=>False) W w'):=fun W=>compare_any e la W
  have HB:Hid (∀ W,Calls Tryz.prog 86 #[.agg #[.slice (some ⟨B,o,none⟩) (n+1) c1,.slice a2 n2 c2,.string h.key,.int .i64 h.page,.int .i64 h.slot],.agg #[.string e.key,.int .i64 e.page,.int .i64 e.slot]] W fun x w'=>x=.returned (.bool (blw h e))∧Only (fun _=>False) W w'):=fun W=>isBelow_any W (some ⟨B,o,none⟩) a2 (n+1) n2 c1 c2 h e
  have hzp:0 < cmpE e la ↔ la.lt e:=cmpE_pos
  obtain ⟨z,hz⟩:=exq (cmpE e la)
  obtain ⟨bw,hbw⟩:=exq (blw h e)
  rw [hz] at HM hzp
  rw [hbw] at HB ⊢
  obtain ⟨rb,hrb⟩:=exq ((decide (la.lt e) && bw))
  rw [hrb]
  have HX:=hide (ce_new w (.slice (some ⟨B,o,none⟩) (n+1) c1) (.slice a2 n2 c2) h e)
  have HEB:=hide (hE.more HX.out.2.2)
  clear hz hE hbw
  unfold cvv En.agg
  go_enter Tryz.func106,Tryz.ntmps106
  go_upto_region 1 with fail
  obtain ⟨W0,hW0⟩:=exq ((w.alloc (.cells #[.slice (some ⟨B,o,none⟩) (n+1) c1,.slice a2 n2 c2,.string h.key,.int .i64 h.page,.int .i64 h.slot] 85)).alloc (.cells #[.string e.key,.int .i64 e.page,.int .i64 e.slot] 41))
  rw [hW0] at HX HEB ⊢
  clear hW0
  have q0:=HX.out.1.c0
  have hn0:((n:Int)+1 == 0)=false:=by simp; omega
  go_upto_region 3 with fail
  clear q0 hn0
  have hwn:IntKind.i64.wrap (n:Int)=(n:Int):=by rw [IntKind.wrap_i64]; omega
  have hle:¬ (n:Int)+1≤(n:Int):=by omega
  by_cases hlt:la.lt e
  · have hz0:0 < z:=hzp.2 hlt
    have HR:Hid (bw=rb):=by rw [decide_eq_true hlt,Bool.true_and] at hrb; exact hrb
    clear hzp hlt hrb
    -- {r3a
    refine wp_region_noPanic ?_
    refine wp_region_held_drew (S:=fun W=>Only (fun _=>False) W0 W) (by kernel_rfl) (Only.drew _ _) (fun hHeld=>?_)
    refine tkQ 0 (.agg #[.string e.key,.int .i64 e.page,.int .i64 e.slot]) rfl (yieldsIf_load_ev (by rfl) _ rfl rfl (fun W hW=>HX.out.2.1.more hW)) ?_
    refine tkP 1 (.pointer (some ⟨w.heap.size,0,none⟩)) rfl ?_
    refine tkP 3 (.pointer (some ⟨w.heap.size,0,none⟩)) rfl ?_
    refine tkQ 2 (.slice (some ⟨B,o,none⟩) (n+1) c1) rfl (yieldsIf_load_cell (by rfl) 79 _ rfl _ rfl (fun W hW=>(HX.out.1.more hW).c0) (fun W hc=>ld_entries hc)) ?_
    refine tkQ 4 (.slice (some ⟨B,o,none⟩) (n+1) c1) rfl (yieldsIf_load_cell (by rfl) 79 _ rfl _ rfl (fun W hW=>(HX.out.1.more hW).c0) (fun W hc=>ld_entries hc)) ?_
    refine tkP 5 (.int .i64 ((n:Int)+1)) rfl ?_
    refine tkP 6 (.int .i64 (n:Int)) rfl ?_
    refine tkP 7 (.pointer (some ⟨B,o+n * 3,none⟩)) rfl ?_
    refine tkQ 8 (.agg #[.string la.key,.int .i64 la.page,.int .i64 la.slot]) rfl (yieldsIf_load_eb (by rfl) _ rfl rfl (fun W hW=>HEB.out.more hW)) ?_
    refine rd1 9 rfl (fun K hK=>?_)
    go_simp
    refine (HM.out _).mono ?_
    rintro x x1 ⟨rfl,hx1⟩
    have HX1:=hide (o2 hHeld hx1)
    clear hx1
    refine hK.out _ _ (HX1.out) (fun hHeld=>?_)
    clear hK K
    try simp only [Act.put,lsA,lsB,lsC]
    refine tkP 10 (.bool true) rfl ?_
    refine tkP 11 (.bool true) rfl ?_
    refine tkQ 12 (.agg #[.slice (some ⟨B,o,none⟩) (n+1) c1,.slice a2 n2 c2,.string h.key,.int .i64 h.page,.int .i64 h.slot]) rfl (yieldsIf_load_cv (by rfl) _ rfl rfl (fun W hW=>HX.out.1.more hW)) ?_
    refine tkQ 13 (.agg #[.string e.key,.int .i64 e.page,.int .i64 e.slot]) rfl (yieldsIf_load_ev (by rfl) _ rfl rfl (fun W hW=>HX.out.2.1.more hW)) ?_
    refine rd1 14 rfl (fun K hK=>?_)
    go_simp
    refine (HB.out _).mono ?_
    rintro x x2 ⟨rfl,hx2⟩
    have HX2:=hide (o2 HX1.out hx2)
    clear hx2
    refine hK.out _ _ (HX2.out) (fun hHeld=>?_)
    clear hK K
    try simp only [Act.put,lsA,lsB,lsC]
    refine tkP 15 (.bool bw) rfl ?_
    refine tkP 16 (.bool bw) rfl ?_
    refine dnN ?_
    go_wp2_with fail
    go_ret
    obtain rfl:=HR.out
    exact ⟨rfl,o2 HX.out.2.2 HX2.out⟩
    -- r3a}
  · have hz0:¬ 0 < z:=fun k=>hlt (hzp.1 k)
    have HR:Hid (false=rb):=by rw [decide_eq_false hlt,Bool.false_and] at hrb; exact hrb
    clear hzp hlt hrb
    -- {r3b
    refine wp_region_noPanic ?_
    refine wp_region_held_drew (S:=fun W=>Only (fun _=>False) W0 W) (by kernel_rfl) (Only.drew _ _) (fun hHeld=>?_)
    refine tkQ 0 (.agg #[.string e.key,.int .i64 e.page,.int .i64 e.slot]) rfl (yieldsIf_load_ev (by rfl) _ rfl rfl (fun W hW=>HX.out.2.1.more hW)) ?_
    refine tkP 1 (.pointer (some ⟨w.heap.size,0,none⟩)) rfl ?_
    refine tkP 3 (.pointer (some ⟨w.heap.size,0,none⟩)) rfl ?_
    refine tkQ 2 (.slice (some ⟨B,o,none⟩) (n+1) c1) rfl (yieldsIf_load_cell (by rfl) 79 _ rfl _ rfl (fun W hW=>(HX.out.1.more hW).c0) (fun W hc=>ld_entries hc)) ?_
    refine tkQ 4 (.slice (some ⟨B,o,none⟩) (n+1) c1) rfl (yieldsIf_load_cell (by rfl) 79 _ rfl _ rfl (fun W hW=>(HX.out.1.more hW).c0) (fun W hc=>ld_entries hc)) ?_
    refine tkP 5 (.int .i64 ((n:Int)+1)) rfl ?_
    refine tkP 6 (.int .i64 (n:Int)) rfl ?_
    refine tkP 7 (.pointer (some ⟨B,o+n * 3,none⟩)) rfl ?_
    refine tkQ 8 (.agg #[.string la.key,.int .i64 la.page,.int .i64 la.slot]) rfl (yieldsIf_load_eb (by rfl) _ rfl rfl (fun W hW=>HEB.out.more hW)) ?_
    refine rd1 9 rfl (fun K hK=>?_)
    go_simp
    refine (HM.out _).mono ?_
    rintro x x1 ⟨rfl,hx1⟩
    have HX1:=hide (o2 hHeld hx1)
    clear hx1
    refine hK.out _ _ (HX1.out) (fun hHeld=>?_)
    clear hK K
    try simp only [Act.put,lsA,lsB,lsC]
    refine tkP 10 (.bool false) rfl ?_
    refine tkP 11 (.bool false) rfl ?_
    refine tkQ 12 undef rfl (Or.inr ⟨by rfl,rfl⟩) ?_
    refine tkQ 13 undef rfl (Or.inr ⟨by rfl,rfl⟩) ?_
    refine tkQ 14 undef rfl (Or.inr ⟨by rfl,rfl⟩) ?_
    refine tkP 15 (.bool false) rfl ?_
    refine tkP 16 (.bool false) rfl ?_
    refine dnN ?_
    go_wp2_with fail
    go_ret
    obtain rfl:=HR.out
    exact ⟨rfl,o2 HX.out.2.2 HX1.out⟩
    -- r3b}
theorem follows_any (W:World) (base C n2 C2:Nat) (A A2:Option Addr) (hi e:En) (es:List En) (n:Nat) (hn:es.length=n) (hl:n≤8796093021952) (hE:Ets W base (.slice A n C) es) :
    Calls Tryz.prog 106 #[.agg #[.slice A n C,.slice A2 n2 C2,.string hi.key,.int .i64 hi.page,.int .i64 hi.slot],.agg #[.string e.key,.int .i64 e.page,.int .i64 e.slot]] W fun x w'=>x=.returned (.bool (okI hi es.getLast? e))∧Only (fun _=>False) W w':=by
  subst hn
  cases hx:es.getLast? with
  | none=>
    have e0:es=[]:=List.getLast?_eq_none_iff.1 hx
    subst e0
    exact follows_nil W A A2 C n2 C2 hi e
  | some la=>
    obtain ⟨ini,rfl⟩:=List.getLast?_eq_some_iff.1 hx
    obtain ⟨B,ao,cp,hv,hels,_,_⟩:=hE.els
    have hlen:(ini++[la]).length=ini.length+1:=by simp
    obtain ⟨o,hao,hat⟩:=hels.at_ (by omega)
    have hv':A=ao:=by injection hv
    subst hao
    subst hv'
    have hb:=hat ini.length (by omega)
    have e1:(ini++[la])[ini.length]'(by omega)=la:=by simp
    rw [e1] at hb
    have q:=follows_one W B o ini.length C n2 C2 A2 hi e la hb (by omega)
    rw [hlen]
    exact q
structure Ns (w:World) (B:Nat) (ao:Option Addr) (l:List Int):Prop where
  at_:0 < l.length→∃ o,ao=some ⟨B,o,none⟩∧∀ j (h:j < l.length),w.cell? ⟨B,o+j,none⟩=some (.int .i64 l[j])
  len:l.length < 9223372036854775808
theorem Ns.take {w:World} {B:Nat} {ao:Option Addr} {l:List Int} (h:Ns w B ao l) (k:Nat):Ns w B ao (l.take k):=by
  refine ⟨fun h0=>?_,by have:=h.len; rw [List.length_take]; omega⟩
  rw [List.length_take] at h0
  obtain ⟨o,e,hc⟩:=h.at_ (by omega)
  exact ⟨o,e,fun j hj=>by rw [List.length_take] at hj; rw [hc j (by omega),List.getElem_take]⟩
theorem not_mem_take {l:List Int} {x:Int} {j:Nat} (h:∀ k (hk:k < l.length),k < j→l[k]≠x) (hj:l.length≤j):x ∉ l:=by
  intro hm
  obtain ⟨k,hk,e⟩:=List.getElem_of_mem hm
  exact h k hk (by omega) e
structure RJ (e:Ending) (P:Prop):Prop where
  ex:∃ c:Int,e=.returned (.int .i64 c)∧(0≤c ↔ P)
set_option maxHeartbeats 800000 in
theorem index_any (w:World) (B cp:Nat) (ao:Option Addr) (l:List Int) (x:Int) (h:Ns w B ao l) :
    Calls Tryz.prog 90 #[.slice ao l.length cp,.int .i64 x] w fun e w'=>RJ e (x ∈ l)∧w'=w:=by
  have hlen:=h.len
  have HS:=hide h
  clear h
  go_enter Tryz.func90,Tryz.ntmps90
  go_wp2_with fail
  go_loop [8] (fun y=>∃ j:Nat,j≤l.length∧y=.int .i64 (j:Int)∧Hid (∀ k (hk:k < l.length),k < j→l[k]≠x)) (fun y=>l.length - (intOf y).toNat)
  case atStart=>exact ⟨0,by omega,rfl,(fun k _ hk=>by omega)⟩
  case round=>
    obtain ⟨j,hj,rfl,HQ⟩:=hrel
    by_cases hlt:j < l.length
    · obtain ⟨o,e1,c1⟩:=HS.out.at_ (by omega)
      have k1:=c1 j hlt
      obtain ⟨z,hz⟩:=exq (l[j])
      have HZ:=hide hz
      rw [hz] at k1
      clear c1 hz
      subst e1
      by_cases he:z=x
      · have hm:x ∈ l:=by rw [← he,← HZ.out]; exact List.getElem_mem hlt
        have HM:=hide hm
        clear hm
        subst he
        go_wp2_with fail
        go_ret
        exact ⟨⟨_,rfl,fun _=>HM.out,fun _=>by omega⟩,rfl⟩
      · have hb:(x == z)=false:=by simp [Ne.symm he]
        go_wp2_with fail
        go_round
        case rel=>
          refine ⟨j+1,by omega,by go_num,?_⟩
          intro k hk hkj
          by_cases ek:k=j
          · subst ek; rw [HZ.out]; exact he
          · exact HQ.out k hk (by omega)
        case measure=>simp [intOf]; omega
    · have HM:=hide (not_mem_take HQ.out (by omega))
      go_wp2_with fail
      go_ret
      exact ⟨⟨_,rfl,fun h=>absurd h (by decide),fun h=>absurd h HM.out⟩,rfl⟩
set_option maxHeartbeats 800000 in
theorem contains_any (w:World) (B cp:Nat) (ao:Option Addr) (l:List Int) (x:Int) (h:Ns w B ao l) :
    Calls Tryz.prog 48 #[.slice ao l.length cp,.int .i64 x] w fun e w'=>e=.returned (.bool (decide (x ∈ l)))∧w'=w:=by
  have HC:=hide (index_any w B cp ao l x h)
  clear h
  go_enter Tryz.func48,Tryz.ntmps48
  go_wp2_with fail
  refine HC.out.mono ?_
  rintro e w1 ⟨⟨c,rfl,hc⟩,rfl⟩
  have HP:=hide hc
  clear hc HC
  by_cases h0:0≤c
  · have g0:decide (0≤c)=true:=decide_eq_true h0
    go_wp2_with fail
    go_ret
    exact ⟨ret_bool (by rw [decide_eq_true (HP.out.1 h0)]),rfl⟩
  · have g0:decide (0≤c)=false:=decide_eq_false h0
    go_wp2_with fail
    go_ret
    exact ⟨ret_bool (by rw [decide_eq_false (fun h=>by have:=HP.out.2 h; omega)]),rfl⟩
def frs (zs:List Int):Bool:=decide (∀ k (h:k < zs.length),2≤zs[k]∧zs[k] ∉ zs.take k)
set_option maxHeartbeats 800000 in
theorem areFresh_any (w:World) (B cp:Nat) (ao:Option Addr) (l:List Int) (h:Ns w B ao l) (hc:l.length≤cp) (hb:cp≤maxLen) :
    Calls Tryz.prog 17 #[.slice ao l.length cp] w fun e w'=>e=.returned (.bool (frs l))∧w'=w:=by
  have hlen:=h.len
  have HS:=hide h
  have HCN:Hid (∀ (k m:Nat) (x:Int),m=k→k≤l.length→Calls Tryz.prog 48 #[.slice ao m cp,.int .i64 x] w fun e w'=>e=.returned (.bool (decide (x ∈ l.take k)))∧w'=w):=fun k m x hm hk=>by
    have:=contains_any w B cp ao (l.take k) x (h.take k)
    rw [List.length_take,Nat.min_eq_left hk] at this
    rw [hm]
    exact this
  have HB:Hid (l.length≤cp∧cp≤maxLen):=⟨hc,hb⟩
  clear h hc hb
  go_enter Tryz.func17,Tryz.ntmps17
  go_wp2_with fail
  go_loop [7] (fun y=>∃ j:Nat,j≤l.length∧y=.int .i64 (j:Int)∧Hid (∀ k (hk:k < l.length),k < j→2≤l[k]∧l[k] ∉ l.take k)) (fun y=>l.length - (intOf y).toNat)
  case atStart=>exact ⟨0,by omega,rfl,(fun k _ hk=>by omega)⟩
  case round=>
    obtain ⟨j,hj,rfl,HQ⟩:=hrel
    by_cases hlt:j < l.length
    · obtain ⟨o,e1,c1⟩:=HS.out.at_ (by omega)
      have k1:=c1 j hlt
      have HCJ:=hide (HCN.out j j l[j] rfl (by omega))
      obtain ⟨z,hz⟩:=exq (l[j])
      have HZ:Hid (∀ hh:j < l.length,l[j]=z):=fun _=>hz
      rw [hz] at k1 HCJ
      clear c1 hz HCN
      subst e1
      by_cases h2:z < 2
      · have HF:Hid (frs l=false):=by
          unfold Hid frs
          rw [decide_eq_false_iff_not]
          intro q
          have:=(q j hlt).1
          rw [HZ.out hlt] at this
          omega
        go_wp2_with fail
        go_ret
        exact ⟨ret_bool HF.out.symm,rfl⟩
      · obtain ⟨D,hD⟩:=exq (decide (z ∈ l.take j))
        rw [hD] at HCJ
        have HD:=hide hD
        clear hD
        have hj0:(0:Int)≤(j:Int):=by omega
        have hj1:(j:Int)≤(l.length:Int):=by omega
        have hj2:(j:Int)≤(cp:Int):=by have:=HB.out.1; omega
        have hcm:=HB.out.2
        unfold maxLen at hcm
        cases D with
        | true=>
          have HF:Hid (frs l=false):=by
            unfold Hid frs
            rw [decide_eq_false_iff_not]
            intro q
            have h1:=(q j hlt).2
            rw [HZ.out hlt] at h1
            exact h1 (by simpa using HD.out)
          go_wp2_with fail
          refine HCJ.out.mono ?_
          rintro e w1 ⟨rfl,h4⟩
          obtain rfl:=h4.symm
          go_wp2_with fail
          go_ret
          exact ⟨ret_bool HF.out.symm,rfl⟩
        | false=>
          go_wp2_with fail
          refine HCJ.out.mono ?_
          rintro e w1 ⟨rfl,h4⟩
          obtain rfl:=h4.symm
          go_wp2_with fail
          go_round
          case rel=>
            refine ⟨j+1,by omega,by go_num,?_⟩
            intro k hk hkj
            by_cases ek:k=j
            · subst ek
              refine ⟨by rw [HZ.out hk]; omega,?_⟩
              rw [HZ.out hk]
              simpa using HD.out
            · exact HQ.out k hk (by omega)
          case measure=>simp [intOf]; omega
    · have HF:Hid (frs l=true):=by
        unfold Hid frs
        rw [decide_eq_true_iff]
        exact fun k hk=>HQ.out k hk (by omega)
      clear HCN
      go_wp2_with fail
      go_ret
      exact ⟨ret_bool HF.out.symm,rfl⟩
end Go.Proofs.YtipkeeobmihogaaGreat
