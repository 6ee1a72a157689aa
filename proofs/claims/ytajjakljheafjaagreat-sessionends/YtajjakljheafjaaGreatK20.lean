/- Parts. -/
import Derived.Test.YtajjakljheafjaaGreatK16
import Derived.Deep.MidRow
import Derived.Laws.Tables
import Derived.Test.YtajjakljheafjaaGreatK19
import Derived.BigQuiet
import Derived.Deep.Draws
set_option maxRecDepth 100000
namespace Go.Proofs.YtajjakljheafjaaGreat
open Go.RowKit
def posI (l:List ByteArray) (ks:List (En × Int)) (e:En) (c:Int):List ByteArray:=l.take (plE (ks.map Prod.fst) e)++e.encS c :: l.drop (plE (ks.map Prod.fst) e)
theorem encS_size {e:En} (c:Int) (h:e.ok=true):(e.encS c).size≤55:=by
  rw [← bl_len,bl_encS]
  exact layS_len c (En.few_ok h).1
structure PosQ (w w':World) (x:Ending) (a v r:Int) (h:ByteArray) (hi e:En) (c:Int) (l:List ByteArray) (ks:List (En × Int)):Prop where
  bad:(e.ok=false∨blw hi e=false∨okC c=false∨e ∈ ks.map Prod.fst)→Res w w' x .none 140
  good:e.ok=true→blw hi e=true→okC c=true→e ∉ ks.map Prod.fst→Or3 w w' x (255 < (posI l ks e c).length∨512 < 20+h.size+isz (posI l ks e c)) ⟨a,3,v,r,h,posI l ks e c⟩
set_option maxHeartbeats 3200000 in
theorem post_ok (w:World) (a v r:Int) (h:ByteArray) (hi e:En) (c:Int) (B cp:Nat) (ao:Option Addr) (l:List ByteArray) (ks:List (En × Int)) (hP:Ip w v r h hi B ao l ks) (hF:Fit ao l.length cp) :
    Calls Tryz.prog 104 #[.agg #[.int .i64 a,.int .i64 3,.int .i64 v,.int .i64 r,.string h,.slice ao l.length cp],e.agg,.int .i64 c] w fun x w'=>PosQ w w' x a v r h hi e c l ks:=by
  have HX:=hide (ins_new w (.int .i64 a) (.int .i64 3) (.int .i64 v) (.int .i64 r) (.string h) (.slice ao l.length cp) e)
  have HR:=hide ((hP.more HX.out.2.2.2).read a cp)
  have HIE:Hid (∀ W,Calls Tryz.prog 84 #[.agg #[.string e.key,.int .i64 e.page,.int .i64 e.slot]] W fun x w'=>x=.returned (.bool e.ok)∧Only (fun _=>False) W w'):=fun W=>isEntry_any e W
  have HBY:Hid (∀ W (A1 A2:Option Addr) (n1 n2 C1 C2:Nat),Calls Tryz.prog 148 #[.agg #[.slice A1 n1 C1,.slice A2 n2 C2,.string hi.key,.int .i64 hi.page,.int .i64 hi.slot],.agg #[.string e.key,.int .i64 e.page,.int .i64 e.slot]] W fun x w'=>x=.returned (.bool (blw hi e))∧Only (fun _=>False) W w'):=fun W A1 A2 n1 n2 C1 C2=>isBelow_any W A1 A2 n1 n2 C1 C2 hi e
  have HPL:Hid (∀ (W:World) (A1 A2:Option Addr) (n1 n2 C1 C2:Nat) (base:Nat),Ets W base (.slice A1 n1 C1) (ks.map Prod.fst)→Calls Tryz.prog 86 #[.agg #[.slice A1 n1 C1,.slice A2 n2 C2,.string hi.key,.int .i64 hi.page,.int .i64 hi.slot],.agg #[.string e.key,.int .i64 e.page,.int .i64 e.slot]] W fun x w'=>x=.returned (.tuple #[.int .i64 (plE (ks.map Prod.fst) e:Int),.bool (decide (e ∈ ks.map Prod.fst))])∧Only (fun _=>False) W w'):=fun W A1 A2 n1 n2 C1 C2 base hE=>by
    obtain ⟨B1,hels,hln⟩:=hE.elsOf
    exact place_any W B1 n1 C1 A1 A2 n2 C2 hi (ks.map Prod.fst) e hels hln (by have:=hP.len; rw [← hln,List.length_map]; omega) hP.inn.rise
  have HIC:Hid (∀ W,Calls Tryz.prog 146 #[.int .i64 c] W fun x w'=>x=.returned (.bool (okC c))∧w'=W):=fun W=>isChild_any c W
  have HLD:Hid (e.ok=true→okC c=true→∀ (W W':World),Only (fun _=>False) (W.alloc (.cells #[.int .i64 c] 3)) W'→Calls Tryz.prog 88 #[.agg #[.string e.key,.int .i64 e.page,.int .i64 e.slot],.slice (some ⟨W.heap.size,0,none⟩) 1 1] W' fun x w'=>x=.returned (.string (e.encS c))∧Only (fun _=>False) W' w'):=fun he hc W W' ho=>laid_two e W W' c (En.few_ok he) (by have:=(okC_iff.1 hc).2; omega) ho
  have HPT:Hid (e.ok=true→∀ W,Only (fun _=>False) w W→Calls Tryz.prog 87 #[.agg #[.int .i64 a,.int .i64 3,.int .i64 v,.int .i64 r,.string h,.slice ao l.length cp],.int .i64 (plE (ks.map Prod.fst) e:Int),.string (e.encS c)] W fun x w'=>∃ p k,Res W w' x p k∧(((255 < (posI l ks e c).length∨512 < 20+h.size+isz (posI l ks e c))∧p=.none∧k=3)∨(¬ (255 < (posI l ks e c).length∨512 < 20+h.size+isz (posI l ks e c))∧p=⟨a,3,v,r,h,posI l ks e c⟩∧k=0))):=fun he W ho=>
    (put_any W a 3 v r h B cp ao l (plE (ks.map Prod.fst) e) (e.encS c) (hP.strs.more ho) hF (by have:=hP.high.size; omega) (by have:=encS_size c he; omega) (by have:=plE_le (ks.map Prod.fst) e; have:=hP.inn.len; rw [List.length_map] at *; omega) (by have:=hP.few; omega)).mono (fun x w' hq=>hq.any)
  clear hP hF
  obtain ⟨K,hK⟩:∃ K:Int,(plE (ks.map Prod.fst) e:Int)=K:=⟨_,rfl⟩
  obtain ⟨O,hO⟩:=exq (e.ok)
  obtain ⟨Y,hY⟩:=exq (blw hi e)
  obtain ⟨D,hD⟩:=exq (decide (e ∈ ks.map Prod.fst))
  obtain ⟨E,hE⟩:=exq (e.encS c)
  obtain ⟨T,hT⟩:=exq (okC c)
  rw [hK,hD] at HPL
  rw [hO] at HIE HLD HPT
  rw [hY] at HBY
  rw [hE,hT] at HLD
  rw [hT] at HIC
  rw [hK,hE] at HPT
  have HOY:=hide (And.intro hO (And.intro hY (And.intro hD hT)))
  clear hK hO hY hD hE hT
  unfold En.agg
  go_enter Tryz.func104,Tryz.ntmps104
  go_upto_region 1 with fail
  obtain ⟨W0,hW0⟩:=exq (((w.alloc (.cells #[.int .i64 a,.int .i64 3,.int .i64 v,.int .i64 r,.string h,.slice ao l.length cp] 37)).alloc (.cells #[.string e.key,.int .i64 e.page,.int .i64 e.slot] 89)).alloc (.cells #[.int .i64 0,.int .i64 0,.int .i64 0,.int .i64 0,.string ⟨#[]⟩,.slice none 0 0] 37))
  rw [hW0] at HX HR ⊢
  clear hW0
  obtain ⟨p0,p1,p2,p3,p4,p5,_⟩:=HX.out.1
  go_wp2_with fail
  refine HR.out.mono ?_
  rintro x w1 ⟨A,C,A2,C2,rfl,he,hk,ho⟩
  unfold cvv
  have HP1:=hide (HX.out.1.more ho)
  have HV1:=hide (HX.out.2.1.more ho)
  have HQ1:=hide (HX.out.2.2.1.more ho)
  have HO1:=hide (o2 HX.out.2.2.2 ho)
  have HE1:=hide he
  clear he hk ho p0 p1 p2 p3 p4 p5 HR HX
  go_upto_region 2 with fail
  have HA:=hide (onlyA w1 (.cells #[.slice A ks.length C,.slice A2 ks.length C2,.string hi.key,.int .i64 hi.page,.int .i64 hi.slot] 164))
  have HC:=hide (Cv.new w1 (.slice A ks.length C) (.slice A2 ks.length C2) hi)
  obtain ⟨cb,hcb⟩:=exq (w1.heap.size)
  rw [hcb] at HC ⊢
  clear hcb
  obtain ⟨w2,hw2⟩:=exq (w1.alloc (.cells #[.slice A ks.length C,.slice A2 ks.length C2,.string hi.key,.int .i64 hi.page,.int .i64 hi.slot] 164))
  rw [hw2] at HA HC ⊢
  clear hw2
  have HP2:=hide (HP1.out.more HA.out)
  have HV2:=hide (HV1.out.more HA.out)
  have HQ2:=hide (HQ1.out.more HA.out)
  have HO2:=hide (o2 HO1.out HA.out)
  have HE2:=hide (HE1.out.more HA.out)
  clear HA HP1 HV1 HQ1 HO1 HE1
  obtain ⟨d0,d1,d2,_⟩:=HV2.out
  go_wp2_with fail
  refine (HIE.out _).mono ?_
  rintro x w3 ⟨rfl,ho⟩
  have HP3:=hide (HP2.out.more ho)
  have HV3:=hide (HV2.out.more ho)
  have HQ3:=hide (HQ2.out.more ho)
  have HC3:=hide (HC.out.more ho)
  have HO3:=hide (o2 HO2.out ho)
  have HE3:=hide (HE2.out.more ho)
  clear ho d0 d1 d2 HP2 HV2 HQ2 HC HO2 HE2
  cases O with
  | false=>
    clear HLD HPT HPL
    obtain ⟨q0,q1,q2,q3,q4,q5,g0,g1,g2,g3,g4,g5,ql⟩:=HQ3.out
    go_wp2_with fail
    refine bodyPost_ret (results_page rfl rfl (Pag.six HQ3.out _ _ _ _ _ _)) rfl ?_
    exact ⟨fun _=>resErr _ HO3.out (by omega),fun h1=>by rw [HOY.out.1] at h1; cases h1⟩
  | true=>
    have HLD0:=hide (HLD.out rfl)
    have HPT0:=hide (HPT.out rfl)
    clear HLD HPT
    obtain ⟨d0,d1,d2,_⟩:=HV3.out
    obtain ⟨q0,q1,q2,q3,q4,_⟩:=HC3.out
    go_wp2_with fail
    refine (HBY.out _ _ _ _ _ _ _).mono ?_
    rintro x w4 ⟨rfl,ho⟩
    have HP4:=hide (HP3.out.more ho)
    have HV4:=hide (HV3.out.more ho)
    have HQ4:=hide (HQ3.out.more ho)
    have HC4:=hide (HC3.out.more ho)
    have HO4:=hide (o2 HO3.out ho)
    have HE4:=hide (HE3.out.more ho)
    clear ho d0 d1 d2 q0 q1 q2 q3 q4 HP3 HV3 HQ3 HC3 HO3 HE3
    cases Y with
    | false=>
      clear HPL HLD0 HPT0
      obtain ⟨q0,q1,q2,q3,q4,q5,g0,g1,g2,g3,g4,g5,ql⟩:=HQ4.out
      go_wp2_with fail
      refine bodyPost_ret (results_page rfl rfl (Pag.six HQ4.out _ _ _ _ _ _)) rfl ?_
      exact ⟨fun _=>resErr _ HO4.out (by omega),fun _ h1=>by rw [HOY.out.2.1] at h1; cases h1⟩
    | true=>
      go_wp2_with fail
      refine (HIC.out _).mono ?_
      rintro x w4b ⟨rfl,h4⟩
      obtain rfl:=h4.symm
      cases T with
      | false=>
        clear HPL HLD0 HPT0
        obtain ⟨q0,q1,q2,q3,q4,q5,g0,g1,g2,g3,g4,g5,ql⟩:=HQ4.out
        go_wp2_with fail
        refine bodyPost_ret (results_page rfl rfl (Pag.six HQ4.out _ _ _ _ _ _)) rfl ?_
        exact ⟨fun _=>resErr _ HO4.out (by omega),fun _ _ h1=>by rw [HOY.out.2.2.2] at h1; cases h1⟩
      | true=>
        have HLD1:=hide (HLD0.out rfl)
        clear HLD0
        obtain ⟨d0,d1,d2,_⟩:=HV4.out
        obtain ⟨q0,q1,q2,q3,q4,_⟩:=HC4.out
        have HPL1:=hide (HPL.out w4 A A2 ks.length ks.length C C2 _ HE4.out)
        clear HPL
        go_wp2_with fail
        refine HPL1.out.mono ?_
        rintro x w5 ⟨rfl,ho⟩
        have HP5:=hide (HP4.out.more ho)
        have HV5:=hide (HV4.out.more ho)
        have HQ5:=hide (HQ4.out.more ho)
        have HO5:=hide (o2 HO4.out ho)
        clear ho d0 d1 d2 q0 q1 q2 q3 q4 HP4 HV4 HQ4 HC4 HO4 HE4 HPL1
        cases D with
        | true=>
          clear HLD1 HPT0
          obtain ⟨q0,q1,q2,q3,q4,q5,g0,g1,g2,g3,g4,g5,ql⟩:=HQ5.out
          go_wp2_with fail
          refine bodyPost_ret (results_page rfl rfl (Pag.six HQ5.out _ _ _ _ _ _)) rfl ?_
          exact ⟨fun _=>resErr _ HO5.out (by omega),fun _ _ _ h1=>absurd (of_decide_eq_true HOY.out.2.2.1) h1⟩
        | false=>
          go_upto_region 7 with fail
          -- {r7
          refine wp_region_noPanic ?_
          refine wp_region_held_drew (S:=fun W=>Only (fun k=>k=w.heap.size+1+1) w5 W) (by kernel_rfl) (Only.drew _ _) (fun hHeld=>?_)
          refine tkQ 0 (.agg #[.int .i64 a,.int .i64 3,.int .i64 v,.int .i64 r,.string h,.slice ao l.length cp]) rfl (yieldsIf_load_page (by rfl) _ rfl _ rfl (fun W hW=>HP5.out.kept hW (by omega))) ?_
          refine tkP 1 (.int .i64 K) rfl ?_
          refine tkQ 2 (.agg #[.string e.key,.int .i64 e.page,.int .i64 e.slot]) rfl (yieldsIf_load_ev (by rfl) _ rfl rfl (fun W hW=>HV5.out.kept hW (by omega))) ?_
          refine tkP 3 (.int .i64 c) rfl ?_
          refine rd1 4 rfl (fun K hK=>?_)
          go_simp
          refine hK.out _ _ ((o2 (onlyA _ _) (Only.drew _ _)).mono (fun _ _ h=>h.elim)) (fun hHeld=>?_)
          clear hK K
          try simp only [Act.put,lsA,lsB,lsC]
          refine rd1 5 rfl (fun K hK=>?_)
          go_simp
          refine (HLD1.out w5 _ (Only.drew _ _)).mono ?_
          rintro x x1 ⟨rfl,hx1⟩
          have HX1:=hide (o2 (o2 (onlyA w5 _) (Only.drew _ _)) hx1)
          clear hx1
          refine hK.out _ _ (HX1.out.mono (fun _ _ h=>h.elim)) (fun hHeld=>?_)
          clear hK K
          try simp only [Act.put,lsA,lsB,lsC]
          refine rd1 6 rfl (fun K hK=>?_)
          go_simp
          refine (HPT0.out _ (o2 HO5.out HX1.out)).mono ?_
          rintro x x2 ⟨p,k,⟨B5,ao5,cp5,rfl,hS5,hF5,ho5,hB5⟩,hpk⟩
          have HX2:=hide ho5
          have HS7:=hide (And.intro hS5 (And.intro hF5 hB5))
          have HPK:=hide hpk
          have HQ7:=hide (HQ5.out.more (o2 HX1.out HX2.out))
          have HZ7:Hid (w.heap.size+1+1 < x1.heap.size):=(HQ5.out.more HX1.out).lt
          obtain ⟨q0,q1,q2,q3,q4,q5,g0,g1,g2,g3,g4,g5,ql⟩:=HQ7.out
          clear hS5 hF5 ho5 hB5 hpk
          refine hK.out _ _ ((o2 HX1.out HX2.out).mono (fun _ _ h=>h.elim)) (fun hHeld=>?_)
          clear hK K
          try simp only [Act.put,lsA,lsB,lsC]
          refine tkP 7 (.agg #[.int .i64 p.lsn,.int .i64 p.kind,.int .i64 p.level,.int .i64 p.right,.string p.high,.slice ao5 p.items.length cp5]) rfl ?_
          refine tkP 8 (.int .i64 k) rfl ?_
          refine rd1 9 rfl (fun K hK=>?_)
          go_simp
          refine hK.out _ _ (((o2 HX1.out HX2.out).mono (fun _ _ h=>h.elim)).trans (Only.six x2 (w.heap.size+1+1) _ _ _ _ _ _) (fun _ _ h=>h)) (fun hHeld=>?_)
          clear hK K
          try simp only [Act.put,lsA,lsB,lsC]
          refine tkP 10 (.int .i64 k) rfl ?_
          refine dnN ?_
          -- r7}
          go_wp2_with fail
          refine bodyPost_ret (results_page rfl rfl (Pag.six HQ7.out _ _ _ _ _ _)) rfl ?_
          have hres:=resSix (k:=k) HS7.out.1 HS7.out.2.1 HX2.out HS7.out.2.2 (o2 HO5.out HX1.out) (w.heap.size+1+1) (by omega) HZ7.out (.int .i64 p.lsn) (.int .i64 p.kind) (.int .i64 p.level) (.int .i64 p.right) (.string p.high) (.slice ao5 p.items.length cp5)
          refine ⟨fun h1=>?_,fun _ _ _ _=>?_⟩
          · exfalso
            rcases h1 with h1 | h1 | h1 | h1
            · rw [HOY.out.1] at h1; cases h1
            · rw [HOY.out.2.1] at h1; cases h1
            · rw [HOY.out.2.2.2] at h1; cases h1
            · exact of_decide_eq_false HOY.out.2.2.1 h1
          · rcases HPK.out with ⟨hc,e1,e2⟩ | ⟨hc,e1,e2⟩
            · subst e1 e2
              exact Or3.yes hc hres
            · subst e1 e2
              exact Or3.no hc hres
structure Rg (w:World) (b o:Nat) (cs:List Value):Prop where
  range:w.rangeAt b o cs
  there:w.there b o cs.length
  lt:b < w.heap.size
theorem only_setCells (b:Nat) (vs:List Value) (o:Nat) (w:World):Only (fun k=>k=b) w (w.setCells b o vs):=by
  induction vs generalizing o w with
  | nil=>exact Only.refl _ _
  | cons v r ih=>
    rw [World.setCells]
    exact (Only.setCell (S:=fun k=>k=b) w ⟨b,o,none⟩ v rfl).trans (ih (o+1) _) (fun _ _ h=>h)
theorem setCells_size (b:Nat) (vs:List Value) (o:Nat) (w:World):(w.setCells b o vs).heap.size=w.heap.size:=by
  induction vs generalizing o w with
  | nil=>rfl
  | cons v r ih=>rw [World.setCells,ih]; simp
theorem setCells_frozen (b:Nat) (vs:List Value) (o:Nat) (w:World) (p:Addr):(w.setCells b o vs).frozen? p=w.frozen? p:=by
  induction vs generalizing o w with
  | nil=>rfl
  | cons v r ih=>rw [World.setCells,ih]; simp
theorem setCells_apart (b:Nat) (vs:List Value) (o:Nat) (w:World) (j:Nat) (h:j < o∨o+vs.length≤j):(w.setCells b o vs).cell? ⟨b,j,none⟩=w.cell? ⟨b,j,none⟩:=by
  induction vs generalizing o w with
  | nil=>rfl
  | cons v r ih=>
    rw [World.setCells,ih (o+1) _ (by simp at h; omega)]
    exact World.cell?_setCell_other w ⟨b,o,none⟩ ⟨b,j,none⟩ v (by intro q; injection q with _ q2; rw [List.length_cons] at h; omega)
theorem Rg.new (w:World) (cs:Array Value) (t:TypeId):Rg (w.alloc (.cells cs t)) w.heap.size 0 cs.toList :=
  ⟨fun j v hv=>by rw [Nat.zero_add]; simpa using hv,fun j hj=>by rw [Nat.zero_add]; exact ⟨by simpa using hj,by simp⟩,by simp⟩
theorem Rg.kept {S:Nat→Prop} {w w':World} {b o:Nat} {cs:List Value} (h:Rg w b o cs) (ho:Only S w w') (hS:¬ S b):Rg w' b o cs :=
  ⟨fun j v hv=>(ho.cell (p:=⟨b,o+j,none⟩) h.lt hS).trans (h.range j v hv),fun j hj=>by
    obtain ⟨h1,h2⟩:=h.there j hj
    exact ⟨by rw [ho.cell (p:=⟨b,o+j,none⟩) h.lt hS]; exact h1,by rw [ho.frozen (p:=⟨b,o+j,none⟩) h.lt hS]; exact h2⟩,Nat.lt_of_lt_of_le h.lt ho.size⟩
theorem Rg.more {w w':World} {b o:Nat} {cs:List Value} (h:Rg w b o cs) (ho:Only (fun _=>False) w w'):Rg w' b o cs:=h.kept ho (fun h=>h)
theorem Rg.cell {w:World} {b o:Nat} {cs:List Value} (h:Rg w b o cs) (j:Nat) (v:Value) (hv:cs[j]?=some v):w.cell? ⟨b,o+j,none⟩=some v:=h.range j v hv
theorem Rg.fr {w:World} {b o:Nat} {cs:List Value} (h:Rg w b o cs) (j:Nat) (hj:j < cs.length):w.frozen? ⟨b,o+j,none⟩=false:=(h.there j hj).2
theorem Rg.part {w:World} {b o:Nat} {c1 c2 c3:List Value} (h:Rg w b o (c1++c2++c3)):Rg w b (o+c1.length) c2:=by
  refine ⟨fun j v hv=>?_,fun j hj=>?_,h.lt⟩
  · have hj:j < c2.length:=(List.getElem?_eq_some_iff.1 hv).1
    have:=h.range (c1.length+j) v (by rw [List.append_assoc,List.getElem?_append_right (by omega),Nat.add_sub_cancel_left,List.getElem?_append_left hj]; exact hv)
    rwa [← Nat.add_assoc] at this
  · have:=h.there (c1.length+j) (by simp only [List.length_append]; omega)
    rwa [← Nat.add_assoc] at this
theorem Rg.set {w:World} {b o:Nat} {cs:List Value} (h:Rg w b o cs) (ds:List Value) (hl:ds.length=cs.length):Rg (w.setCells b o ds) b o ds:=by
  have hr:=World.rangeAt_setCells_same w b o ds (by rw [hl]; exact h.there)
  refine ⟨hr,fun j hj=>?_,by rw [setCells_size]; exact h.lt⟩
  exact ⟨by rw [hr j _ (List.getElem?_eq_getElem hj)]; rfl,by rw [setCells_frozen]; exact (h.there j (by omega)).2⟩
theorem Rg.put {w:World} {b o:Nat} {c1 c2 c3:List Value} (h:Rg w b o (c1++c2++c3)) (ds:List Value) (hl:ds.length=c2.length):Rg (w.setCells b (o+c1.length) ds) b o (c1++ds++c3):=by
  have hp:=h.part.set ds hl
  refine ⟨fun j v hv=>?_,fun j hj=>?_,by rw [setCells_size]; exact h.lt⟩
  · by_cases k:j < c1.length
    · rw [setCells_apart _ _ _ _ _ (by omega)]
      refine h.range j v ?_
      rw [List.append_assoc,List.getElem?_append_left k] at hv ⊢
      exact hv
    · by_cases k2:j < c1.length+c2.length
      · rw [List.append_assoc,List.getElem?_append_right (by omega),List.getElem?_append_left (by omega)] at hv
        have:=hp.range (j - c1.length) v hv
        rwa [Nat.add_assoc,Nat.add_sub_cancel' (by omega)] at this
      · rw [setCells_apart _ _ _ _ _ (by omega)]
        refine h.range j v ?_
        rw [List.append_assoc,List.getElem?_append_right (by omega),List.getElem?_append_right (by omega)] at hv ⊢
        rw [← hl]
        exact hv
  · have hj':j < (c1++c2++c3).length:=by simp only [List.length_append] at hj ⊢; omega
    refine ⟨?_,by rw [setCells_frozen]; exact (h.there j hj').2⟩
    by_cases k2:j < c1.length∨c1.length+ds.length≤j
    · rw [setCells_apart _ _ _ _ _ (by omega)]
      exact (h.there j hj').1
    · have:=(hp.there (j - c1.length) (by omega)).1
      rwa [Nat.add_assoc,Nat.add_sub_cancel' (by omega)] at this
structure Br where
  kind:Int
  page:Int
  data:ByteArray
  ia:Option Addr
  il:Nat
  ic:Nat
abbrev Br.none:Br:=⟨0,0,⟨#[]⟩,Option.none,0,0⟩
abbrev Br.cells (r:Br):Array Value :=
  #[.int .i64 0,.int .i64 0,.int .i64 0,.int .u8 r.kind,.int .i64 0,.int .i64 r.page,.int .i64 0,.int .i64 0,.int .i64 0,.int .i64 0,.string r.data,
    .slice Option.none 0 0,.slice Option.none 0 0,.slice r.ia r.il r.ic,.slice Option.none 0 0,.slice Option.none 0 0]
def Br.cl (r:Br):List Value:=r.cells.toList
theorem Tryz.sizeRecB:(Tryz.prog.info? 50).map (·.size)=some 16:=by kernel_rfl
theorem Tryz.sizePageB:(Tryz.prog.info? 37).map (·.size)=some 6:=by kernel_rfl
structure StR (w W:World) (b o:Nat) (ds:List Value):Prop where
  eq:W=w.setCells b o ds
  only:Only (fun k=>k=b) w W
  at_:Rg W b o ds
section
variable {ops:Array Oper} {rest:List Oper} {o:Oper} {a:Act} {w:World} {Q:Exit→Act→World→Prop}
theorem wpList_put_br (hg:o.guard=none) (x y:Operand) (hop:o.op=.store 50 x y) (b:Nat) (hx:a.eval x=.pointer (some ⟨b,0,none⟩)) (cs:List Value) (hl:cs.length=16) (r:Br) (hy:a.eval y=.agg r.cells) (hc:Rg w b 0 cs)
    (h:∀ W,Hid (StR w W b 0 r.cl)→wpList Tryz.prog ops Q rest (a.put o.dst undef) W):wpList Tryz.prog ops Q (o :: rest) a w :=
  wpList_store_mid hg 50 x y hop b 0 r.cells hx hy (by have:=hc.there; rwa [hl] at this) Tryz.sizeRecB (by simp [Value.oneCell']) (h _ ⟨rfl,only_setCells _ _ _ _,hc.set _ (by rw [hl]; rfl)⟩)
end
theorem run_build_bnone (w:World):(Instr.build 50 #[]).run Tryz.prog w=.ok (.agg Br.none.cells) w:=run_build w 50 #[] _ (by kernel_rfl)
theorem run_build_in (w:World) (p:Int) (d:ByteArray):(Instr.build 50 #[(3,.int .u8 3),(5,.int .i64 p),(10,.string d)]).run Tryz.prog w=.ok (.agg (Br.cells ⟨3,p,d,Option.none,0,0⟩)) w:=run_build w 50 _ _ (by kernel_rfl)
theorem run_build_split (w:World) (ia:Option Addr) (il ic:Nat):(Instr.build 50 #[(3,.int .u8 5),(13,.slice ia il ic)]).run Tryz.prog w=.ok (.agg (Br.cells ⟨5,0,⟨#[]⟩,ia,il,ic⟩)) w:=run_build w 50 _ _ (by kernel_rfl)
section
variable {ops:Array Oper} {rest:List Oper} {o:Oper} {a:Act} {w:World} {Q:Exit→Act→World→Prop}
theorem wpList_build_bnone (hg:o.guard=none) (hop:o.op=.build 50 #[]) (h:wpList Tryz.prog ops Q rest (a.put o.dst (.agg Br.none.cells)) w):wpList Tryz.prog ops Q (o :: rest) a w:=by
  refine wpList_plain hg fun K hK=>?_
  unfold Oper.wp execOp
  simp only [hop,Array.map_empty,Sem.run_bind,Sem.run_pure,Result.andThen_ok,run_build_bnone]
  exact hK _ _ h
theorem wpList_build_in (hg:o.guard=none) (a5 a10:Operand) (hop:o.op=.build 50 #[(3,.const (.int .u8 3)),(5,a5),(10,a10)]) (p:Int) (d:ByteArray) (h5:a.eval a5=.int .i64 p) (h10:a.eval a10=.string d)
    (h:wpList Tryz.prog ops Q rest (a.put o.dst (.agg (Br.cells ⟨3,p,d,Option.none,0,0⟩))) w):wpList Tryz.prog ops Q (o :: rest) a w:=by
  refine wpList_plain hg fun K hK=>?_
  unfold Oper.wp execOp
  have e:(#[(3,Operand.const (.int .u8 3)),(5,a5),(10,a10)]:Array (Nat × Operand)).map (fun x=>(x.1,a.eval x.2))=#[(3,.int .u8 3),(5,.int .i64 p),(10,.string d)]:=by
    simp only [List.map_toArray,List.map_cons,List.map_nil,h5,h10]
    rfl
  simp only [hop,e,Sem.run_bind,Sem.run_pure,Result.andThen_ok,run_build_in]
  exact hK _ _ h
theorem wpList_build_split (hg:o.guard=none) (a13:Operand) (hop:o.op=.build 50 #[(3,.const (.int .u8 5)),(13,a13)]) (ia:Option Addr) (il ic:Nat) (h13:a.eval a13=.slice ia il ic)
    (h:wpList Tryz.prog ops Q rest (a.put o.dst (.agg (Br.cells ⟨5,0,⟨#[]⟩,ia,il,ic⟩))) w):wpList Tryz.prog ops Q (o :: rest) a w:=by
  refine wpList_plain hg fun K hK=>?_
  unfold Oper.wp execOp
  have e:(#[(3,Operand.const (.int .u8 5)),(13,a13)]:Array (Nat × Operand)).map (fun x=>(x.1,a.eval x.2))=#[(3,.int .u8 5),(13,.slice ia il ic)]:=by
    simp only [List.map_toArray,List.map_cons,List.map_nil,h13]
    rfl
  simp only [hop,e,Sem.run_bind,Sem.run_pure,Result.andThen_ok,run_build_split]
  exact hK _ _ h
end
theorem load_br {w:World} {b:Nat} {r:Br} (h:Rg w b 0 r.cl):(loadVar 50 ⟨b,0,none⟩).run Tryz.prog w=.ok (.agg r.cells) w :=
  run_loadVar_mid (P:=Tryz.prog) w b 0 50 r.cl _ h.range Tryz.underlying50 rfl Tryz.sizeRecB
theorem results_br {fn:Func} {p u:Tmp} (h:fn.results=#[.cell p 50,.tmp u]) {tmps:Array Value} {w:World} {b:Nat} {r:Br} (hp:tmps.getD p undef=.pointer (some ⟨b,0,none⟩)) (hP:Rg w b 0 r.cl) :
    (results fn tmps).run Tryz.prog w=.ok (.tuple #[.agg r.cells,tmps.getD u undef]) w:=by
  have e:(asAddr (.pointer (some ⟨b,0,none⟩))).run Tryz.prog w=.ok ⟨b,0,none⟩ w:=rfl
  rw [results_cell_tmp h,hp,e]
  simp only [Result.andThen,load_br hP]
structure Nm (w:World) (x:Nd) (B:Nat) (ao:Option Addr):Prop where
  strs:Strs w B ao x.items
  lvl:x.lv≤255
  rt:x.rt≤65535
  ok:∃ lo,x.Ok lo
  kok:x.Kok
theorem Nm.more {w w':World} {x:Nd} {B:Nat} {ao:Option Addr} (h:Nm w x B ao) (ho:Only (fun _=>False) w w'):Nm w' x B ao:=⟨h.strs.more ho,h.lvl,h.rt,h.ok,h.kok⟩
theorem hiB_is {h lo:En} (x:h=noE∨(h.ok=true∧lo.lt h)):HiIs (hiB h) h:=by
  unfold hiB
  by_cases k:h=noE
  · rw [if_pos k]; exact .inl ⟨rfl,k⟩
  · rw [if_neg k]
    rcases x with x | x
    · exact absurd x k
    · exact .inr ⟨rfl,x.1⟩
theorem Nd.items_leaf {x:Nd} (hv:x.lv=0):x.items=x.es.map En.enc:=by
  unfold Nd.items Nd.es
  rw [List.map_map]
  refine List.map_congr_left (fun k _=>?_)
  unfold itB
  rw [if_pos hv]
  rfl
theorem Nd.items_inner {x:Nd} (hv:0 < x.lv):x.items=x.ks.map (fun k=>k.1.encS k.2):=by
  unfold Nd.items
  refine List.map_congr_left (fun k _=>?_)
  unfold itB
  rw [if_neg (by omega)]
theorem Nm.few {w:World} {x:Nd} {B:Nat} {ao:Option Addr} (h:Nm w x B ao):x.ks.length≤82:=by
  obtain ⟨lo,ho⟩:=h.ok
  exact ho.few h.kok
theorem Nd.Ok.lfIs {x:Nd} {lo:En} (ho:x.Ok lo) (hv:x.lv=0):LfIs x.hi x.items x.es:=by
  refine ⟨Nd.items_leaf hv,ho.rise,?_,?_⟩
  · intro e he
    obtain ⟨k,hk,rfl⟩:=List.mem_map.1 he
    exact (ho.leaf hv k hk).1
  · intro e he
    obtain ⟨k,hk,rfl⟩:=List.mem_map.1 he
    exact (ho.leaf hv k hk).2.2.2
theorem Nd.Ok.inIs {x:Nd} {lo:En} (ho:x.Ok lo) (hk:x.Kok) (hv:0 < x.lv):InIs x.hi x.items x.ks :=
  ⟨Nd.items_inner hv,ho.rise,ho.first hv,fun k hkk=>⟨(ho.inner hv k hkk).1,(ho.inner hv k hkk).2.2⟩,hk hv⟩
theorem Nm.lp {w:World} {x:Nd} {B:Nat} {ao:Option Addr} (h:Nm w x B ao) (hv:x.lv=0):Lp w x.rt (hiB x.hi) x.hi B ao x.items x.es:=by
  obtain ⟨lo,ho⟩:=h.ok
  have hf:=h.few
  have hr:=h.rt
  exact ⟨h.strs,⟨by omega,by omega⟩,hiB_is ho.hiok,ho.lfIs hv,by rw [Nd.items_len]; omega⟩
theorem Nm.ip {w:World} {x:Nd} {B:Nat} {ao:Option Addr} (h:Nm w x B ao) (hv:0 < x.lv):Ip w x.lv x.rt (hiB x.hi) x.hi B ao x.items x.ks:=by
  obtain ⟨lo,ho⟩:=h.ok
  have hf:=h.few
  have hr:=h.rt
  have hl:=h.lvl
  exact ⟨h.strs,⟨by omega,by omega⟩,⟨by omega,by omega⟩,hiB_is ho.hiok,ho.inIs h.kok hv,by rw [Nd.items_len]; omega⟩
def RdR (w w':World) (x:Ending) (X:Nd):Prop:=∃ A C A2 n2 C2,x=.returned (.tuple #[cvv (.slice A X.ks.length C) (.slice A2 n2 C2) X.hi,.bool true])∧Ets w' w.heap.size (.slice A X.ks.length C) X.es∧(0 < X.lv→n2=X.ks.length∧Kts w' w.heap.size (.slice A2 n2 C2) (X.ks.map Prod.snd))∧Only (fun _=>False) w w'
theorem read_inner (w:World) (a v r:Int) (h:ByteArray) (hi:En) (B cp:Nat) (ao:Option Addr) (l:List ByteArray) (ks:List (En × Int)) (hP:Ip w v r h hi B ao l ks) :
    Calls Tryz.prog 96 #[.agg #[.int .i64 a,.int .i64 3,.int .i64 v,.int .i64 r,.string h,.slice ao l.length cp]] w fun x w'=>InR w w' x hi ks:=by
  have HX:=hide (lf_new w (.int .i64 a) (.int .i64 3) (.int .i64 v) (.int .i64 r) (.string h) (.slice ao l.length cp))
  have HR:=hide ((hP.more HX.out.2.2).read a cp)
  have hv:¬ v=0:=by have:=hP.level; omega
  clear hP
  go_enter Tryz.func96,Tryz.ntmps96
  go_upto_region 1 with fail
  obtain ⟨W0,hW0⟩:=exq ((w.alloc (.cells #[.int .i64 a,.int .i64 3,.int .i64 v,.int .i64 r,.string h,.slice ao l.length cp] 37)).alloc (.cells #[.slice none 0 0,.slice none 0 0,.string ⟨#[]⟩,.int .i64 0,.int .i64 0] 164))
  rw [hW0] at HX HR ⊢
  clear hW0
  obtain ⟨p0,p1,p2,p3,p4,p5,_⟩:=HX.out.1
  go_wp2_with fail
  refine HR.out.mono ?_
  rintro x w1 ⟨A,C,A2,C2,rfl,he,hk,ho⟩
  unfold cvv
  have HE:=hide he
  have HK:=hide hk
  have HC:=hide (HX.out.2.1.more ho)
  have HB:Hid (w.heap.size+1 < W0.heap.size):=HX.out.2.1.lt
  have HO1:=hide (o2 HX.out.2.2 ho)
  clear he hk ho p0 p1 p2 p3 p4 p5 HR
  obtain ⟨r0,r1,r2,r3,r4,f0,f1,f2,f3,f4,_⟩:=HC.out
  go_wp2_with fail
  refine bodyPost_ret (results_cv rfl rfl (HC.out.all _ _ hi)) rfl ?_
  have hfive:=Only.five w1 (w.heap.size+1) (.slice A ks.length C) (.slice A2 ks.length C2) (.string hi.key) (.int .i64 hi.page) (.int .i64 hi.slot)
  refine ⟨A,C,A2,C2,rfl,(HE.out.kept hfive (fun k hk=>?_)).base (by have:=HB.out; omega),(HK.out.kept hfive (fun k hk=>?_)).base (by have:=HB.out; omega),HO1.out.trans hfive (fun i hi e=>by omega)⟩
  · have:=(World.ownsRow.lt HE.out k hk).1
    have:=HB.out
    omega
  · have:=(World.ownsRow.lt HK.out k hk).1
    have:=HB.out
    omega
theorem read_nd (w:World) (a:Int) (X:Nd) (B cp:Nat) (ao:Option Addr) (hP:Nm w X B ao) :
    Calls Tryz.prog 96 #[.agg #[.int .i64 a,.int .i64 3,.int .i64 X.lv,.int .i64 X.rt,.string (hiB X.hi),.slice ao X.items.length cp]] w fun x w'=>RdR w w' x X:=by
  rcases Nat.eq_zero_or_pos X.lv with v | v
  · have h:=read_leaf w a X.rt (hiB X.hi) X.hi B cp ao X.items X.es (hP.lp v)
    rw [v]
    refine h.mono ?_
    rintro x w' ⟨A,C,rfl,he,ho⟩
    rw [Nd.es_len] at he ⊢
    exact ⟨A,C,none,0,0,rfl,he,fun z=>absurd v (by omega),ho⟩
  · have h:=read_inner w a X.lv X.rt (hiB X.hi) X.hi B cp ao X.items X.ks (hP.ip v)
    refine h.mono ?_
    rintro x w' ⟨A,C,A2,C2,rfl,he,hk,ho⟩
    exact ⟨A,C,A2,_,C2,rfl,he,fun _=>⟨rfl,hk⟩,ho⟩
def Nd.pg (x:Nd) (a:Int):Pg:=⟨a,3,x.lv,x.rt,hiB x.hi,x.items⟩
theorem Nm.out {w:World} {x:Nd} {B:Nat} {ao:Option Addr} (h:Nm w x B ao) {a:Int} (ha:0≤a):((x.pg a).out).2=0:=by
  obtain ⟨lo,ho⟩:=h.ok
  have hf:=h.few
  have hl:=h.lvl
  have hr:=h.rt
  have hs:=ho.size
  have hh:(hiB x.hi).size≤31:=hiB_size (by rcases ho.hiok with y | y; exact .inl y; exact .inr y.1)
  rw [out_ok]
  · unfold Pg.inRange Nd.pg
    simp only []
    omega
  · unfold Pg.fits Nd.pg
    unfold Nd.size at hs
    have:=Nd.items_len x
    unfold Pg.size
    simp only []
    omega
set_option maxHeartbeats 1600000 in
theorem check_nd (w:World) (a:Int) (X:Nd) (B cp:Nat) (ao:Option Addr) (hP:Nm w X B ao) (ha:0≤a∧a < 9223372036854775808) :
    Calls Tryz.prog 52 #[.agg #[.int .i64 a,.int .i64 3,.int .i64 X.lv,.int .i64 X.rt,.string (hiB X.hi),.slice ao X.items.length cp]] w fun x w'=>x=.returned (.int .i64 0)∧Only (fun _=>False) w w':=by
  have HP:=hide (Pag.new w (.int .i64 a) (.int .i64 3) (.int .i64 X.lv) (.int .i64 X.rt) (.string (hiB X.hi)) (.slice ao X.items.length cp))
  have HO:=hide (onlyA w (.cells #[.int .i64 a,.int .i64 3,.int .i64 X.lv,.int .i64 X.rt,.string (hiB X.hi),.slice ao X.items.length cp] 37))
  have HR:Hid (∀ W,Only (fun _=>False) w W→Calls Tryz.prog 96 #[.agg #[.int .i64 a,.int .i64 3,.int .i64 X.lv,.int .i64 X.rt,.string (hiB X.hi),.slice ao X.items.length cp]] W fun x w'=>RdR W w' x X):=fun W ho=>read_nd W a X B cp ao (hP.more ho)
  have HE:Hid (∀ W,Only (fun _=>False) w W→Calls Tryz.prog 97 #[.agg #[.int .i64 a,.int .i64 3,.int .i64 X.lv,.int .i64 X.rt,.string (hiB X.hi),.slice ao X.items.length cp]] W fun x w'=>(∃ s,x=.returned (.tuple #[.string s,.int .i64 0]))∧Only (fun _=>False) W w'):=fun W ho=>by
    have h:=pencode_any W a 3 X.lv X.rt (hiB X.hi) B cp ao X.items (hP.strs.more ho) (by obtain ⟨lo,hk⟩:=hP.ok; have:=hiB_size (h:=X.hi) (by rcases hk.hiok with y | y; exact .inl y; exact .inr y.1); omega) ha.2
    refine h.mono ?_
    rintro x w' ⟨rfl,ho'⟩
    exact ⟨⟨_,by rw [show (Pg.out ⟨a,3,X.lv,X.rt,hiB X.hi,X.items⟩).2=0 from hP.out ha.1]⟩,ho'⟩
  clear hP ha
  obtain ⟨L,hL⟩:=exq ((X.lv:Int))
  obtain ⟨R,hR⟩:=exq ((X.rt:Int))
  obtain ⟨h,hh⟩:=exq (hiB X.hi)
  obtain ⟨n,hn⟩:=exq (X.items.length)
  rw [hL,hR,hh,hn] at HP HO HR HE ⊢
  clear hL hR hh hn
  go_enter Tryz.func52,Tryz.ntmps52
  go_upto_region 1 with fail
  obtain ⟨W0,hW0⟩:=exq (w.alloc (.cells #[.int .i64 a,.int .i64 3,.int .i64 L,.int .i64 R,.string h,.slice ao n cp] 37))
  rw [hW0] at HP HO ⊢
  clear hW0
  obtain ⟨p0,p1,p2,p3,p4,p5,_⟩:=HP.out
  go_wp2_with fail
  refine (HR.out _ HO.out).mono ?_
  rintro x w1 ⟨A,C,A2,n2,C2,rfl,he,hk,ho⟩
  unfold cvv
  have HP1:=hide (HP.out.more ho)
  have HO1:=hide (o2 HO.out ho)
  clear he hk ho p0 p1 p2 p3 p4 p5 HP HO HR
  go_upto_region 2 with fail
  have HA:=hide (onlyA w1 (.cells #[.slice A X.ks.length C,.slice A2 n2 C2,.string X.hi.key,.int .i64 X.hi.page,.int .i64 X.hi.slot] 164))
  obtain ⟨w2,hw2⟩:=exq (w1.alloc (.cells #[.slice A X.ks.length C,.slice A2 n2 C2,.string X.hi.key,.int .i64 X.hi.page,.int .i64 X.hi.slot] 164))
  rw [hw2] at HA ⊢
  clear hw2
  have HP2:=hide (HP1.out.more HA.out)
  have HO2:=hide (o2 HO1.out HA.out)
  clear HA HP1 HO1
  obtain ⟨p0,p1,p2,p3,p4,p5,_⟩:=HP2.out
  go_wp2_with fail
  refine (HE.out _ HO2.out).mono ?_
  rintro x w3 ⟨⟨s,rfl⟩,ho⟩
  have HO3:=hide (o2 HO2.out ho)
  clear ho
  go_wp2_with fail
  go_ret
  exact ⟨rfl,HO3.out⟩
set_option maxHeartbeats 1600000 in
theorem beyond_nd (w:World) (a:Int) (X:Nd) (e:En) (B cp:Nat) (ao:Option Addr) (hP:Nm w X B ao) :
    Calls Tryz.prog 53 #[.agg #[.int .i64 a,.int .i64 3,.int .i64 X.lv,.int .i64 X.rt,.string (hiB X.hi),.slice ao X.items.length cp],e.agg] w fun x w'=>x=.returned (byV X.hi e)∧Only (fun _=>False) w w':=by
  have HX:=hide (pe_new w (.int .i64 a) (.int .i64 3) (.int .i64 X.lv) (.int .i64 X.rt) (.string (hiB X.hi)) (.slice ao X.items.length cp) e)
  have HR:=hide (read_nd _ a X B cp ao (hP.more HX.out.2.2))
  have HIE:Hid (∀ W,Calls Tryz.prog 84 #[.agg #[.string e.key,.int .i64 e.page,.int .i64 e.slot]] W fun x w'=>x=.returned (.bool e.ok)∧Only (fun _=>False) W w'):=fun W=>isEntry_any e W
  have HBY:Hid (∀ W (A1 A2:Option Addr) (n1 n2 C1 C2:Nat),Calls Tryz.prog 85 #[.agg #[.slice A1 n1 C1,.slice A2 n2 C2,.string X.hi.key,.int .i64 X.hi.page,.int .i64 X.hi.slot],.agg #[.string e.key,.int .i64 e.page,.int .i64 e.slot]] W fun x w'=>x=.returned (.bool (byd X.hi e))∧Only (fun _=>False) W w'):=fun W A1 A2 n1 n2 C1 C2=>isBeyond_any W A1 A2 n1 n2 C1 C2 X.hi e
  clear hP
  unfold byV En.agg
  obtain ⟨O,hO⟩:=exq (e.ok)
  obtain ⟨Y,hY⟩:=exq (byd X.hi e)
  rw [hO] at HIE ⊢
  rw [hY] at HBY ⊢
  clear hO hY
  obtain ⟨L,hL⟩:=exq ((X.lv:Int))
  obtain ⟨R,hR⟩:=exq ((X.rt:Int))
  obtain ⟨h,hh⟩:=exq (hiB X.hi)
  obtain ⟨n,hn⟩:=exq (X.items.length)
  rw [hL,hR,hh,hn] at HX HR ⊢
  clear hL hR hh hn
  go_enter Tryz.func53,Tryz.ntmps53
  go_upto_region 1 with fail
  obtain ⟨W0,hW0⟩:=exq ((w.alloc (.cells #[.int .i64 a,.int .i64 3,.int .i64 L,.int .i64 R,.string h,.slice ao n cp] 37)).alloc (.cells #[.string e.key,.int .i64 e.page,.int .i64 e.slot] 89))
  rw [hW0] at HX HR ⊢
  clear hW0
  obtain ⟨p0,p1,p2,p3,p4,p5,_⟩:=HX.out.1
  go_wp2_with fail
  refine HR.out.mono ?_
  rintro x w1 ⟨A,C,A2,n2,C2,rfl,he,hk,ho⟩
  unfold cvv
  have HV1:=hide (HX.out.2.1.more ho)
  have HO1:=hide (o2 HX.out.2.2 ho)
  clear he hk ho p0 p1 p2 p3 p4 p5 HR HX
  go_upto_region 2 with fail
  have HA:=hide (onlyA w1 (.cells #[.slice A X.ks.length C,.slice A2 n2 C2,.string X.hi.key,.int .i64 X.hi.page,.int .i64 X.hi.slot] 164))
  have HC:=hide (Cv.new w1 (.slice A X.ks.length C) (.slice A2 n2 C2) X.hi)
  obtain ⟨cb,hcb⟩:=exq (w1.heap.size)
  rw [hcb] at HC ⊢
  clear hcb
  obtain ⟨w2,hw2⟩:=exq (w1.alloc (.cells #[.slice A X.ks.length C,.slice A2 n2 C2,.string X.hi.key,.int .i64 X.hi.page,.int .i64 X.hi.slot] 164))
  rw [hw2] at HA HC ⊢
  clear hw2
  have HV2:=hide (HV1.out.more HA.out)
  have HO2:=hide (o2 HO1.out HA.out)
  clear HA HV1 HO1
  obtain ⟨d0,d1,d2,_⟩:=HV2.out
  go_wp2_with fail
  refine (HIE.out _).mono ?_
  rintro x w3 ⟨rfl,ho⟩
  have HV3:=hide (HV2.out.more ho)
  have HC3:=hide (HC.out.more ho)
  have HO3:=hide (o2 HO2.out ho)
  clear ho d0 d1 d2 HV2 HC HO2
  cases O with
  | false=>
    go_wp2_with fail
    go_ret2
    exact ⟨rfl,HO3.out⟩
  | true=>
    obtain ⟨d0,d1,d2,_⟩:=HV3.out
    obtain ⟨q0,q1,q2,q3,q4,_⟩:=HC3.out
    go_wp2_with fail
    refine (HBY.out _ _ _ _ _ _ _).mono ?_
    rintro x w4 ⟨rfl,ho⟩
    have HO4:=hide (o2 HO3.out ho)
    clear ho
    go_wp2_with fail
    go_ret2
    exact ⟨rfl,HO4.out⟩
def brd (v:Nat) (s:ByteArray):Option (En × Int):=if v=0 then (decE (bl s)).map (fun e=>(e,0)) else decS (bl s)
theorem outS_map (o:Option En):outS (o.map (fun e=>(e,0)))=.tuple #[(o.getD noE).agg,.int .i64 0,.int .i64 (if o.isSome then 0 else 140)]:=by cases o <;> rfl
set_option maxHeartbeats 800000 in
theorem bread_any (v:Nat) (s:ByteArray) (w:World):Calls Tryz.prog 55 #[.int .i64 v,.string s] w fun x w'=>x=.returned (outS (brd v s))∧Only (fun _=>False) w w':=by
  have HR:=hide (Ev.zero w)
  have HO:=hide (onlyA w (.cells #[.string ⟨#[]⟩,.int .i64 0,.int .i64 0] 89))
  have HD:=hide (fun W=>decode_any s W)
  have HU:=hide (fun W=>unsep_any s W)
  unfold brd
  obtain ⟨W0,hW0⟩:=exq (w.alloc (.cells #[.string ⟨#[]⟩,.int .i64 0,.int .i64 0] 89))
  rw [hW0] at HR HO
  by_cases hv:v=0
  · rw [if_pos hv,outS_map,hv,Int.ofNat_zero]
    unfold outE at HD
    obtain ⟨E,hE⟩:=exq ((decE (bl s)).getD noE)
    obtain ⟨K,hK⟩:∃ K:Int,(if (decE (bl s)).isSome=true then 0 else 140)=K:=⟨_,rfl⟩
    rw [hE,hK] at HD ⊢
    clear hE hK hv
    unfold En.agg at HD ⊢
    go_enter Tryz.func55,Tryz.ntmps55
    go_upto_region 1 with fail
    clear hW0
    go_wp2_with fail
    refine (HD.out _).mono ?_
    rintro x w1 ⟨rfl,ho⟩
    have HR1:=hide (HR.out.more ho)
    have HO1:=hide (o2 HO.out ho)
    have HB:Hid (w.heap.size < W0.heap.size):=HR.out.lt
    have HZ:=hide ho.size
    clear ho HR HO HD HU
    go_upto_region 3 with fail
    have HA:=hide (onlyA w1 (.cells #[.string E.key,.int .i64 E.page,.int .i64 E.slot] 89))
    have HC:=hide (Ev.new w1 E)
    obtain ⟨cb,hcb⟩:=exq (w1.heap.size)
    rw [hcb] at HC ⊢
    clear hcb
    obtain ⟨w2,hw2⟩:=exq (w1.alloc (.cells #[.string E.key,.int .i64 E.page,.int .i64 E.slot] 89))
    rw [hw2] at HA HC ⊢
    clear hw2
    have HR2:=hide (HR1.out.more HA.out)
    have HO2:=hide (o2 HO1.out HA.out)
    clear HA HR1 HO1
    obtain ⟨c0,c1,c2,_⟩:=HC.out
    obtain ⟨r0,r1,r2,f0,f1,f2,_⟩:=HR2.out
    go_wp2_with fail
    refine bodyPost_ret (results_ev3 rfl rfl (HR2.out.all E)) rfl ?_
    exact ⟨rfl,HO2.out.trans (Only.three _ _ _ _ _) (fun i hi e=>by omega)⟩
  · have hv0:¬ (v:Int)=0:=by omega
    rw [if_neg hv]
    obtain ⟨V,hV⟩:=exq ((v:Int))
    rw [hV] at hv0 ⊢
    clear hV hv
    unfold outS at HU ⊢
    obtain ⟨E,hE⟩:=exq (((decS (bl s)).getD (noE,0)).1)
    obtain ⟨C,hC⟩:=exq (((decS (bl s)).getD (noE,0)).2)
    obtain ⟨K,hK⟩:∃ K:Int,(if (decS (bl s)).isSome=true then 0 else 140)=K:=⟨_,rfl⟩
    rw [hE,hC,hK] at HU ⊢
    clear hE hC hK
    unfold En.agg at HU ⊢
    go_enter Tryz.func55,Tryz.ntmps55
    go_upto_region 1 with fail
    clear hW0
    go_wp2_with fail
    refine (HU.out _).mono ?_
    rintro x w1 ⟨rfl,ho⟩
    have HR1:=hide (HR.out.more ho)
    have HO1:=hide (o2 HO.out ho)
    clear ho HR HO HD HU
    obtain ⟨r0,r1,r2,f0,f1,f2,_⟩:=HR1.out
    go_wp2_with fail
    refine bodyPost_ret (results_ev3 rfl rfl (HR1.out.all E)) rfl ?_
    exact ⟨rfl,HO1.out.trans (Only.three _ _ _ _ _) (fun i hi e=>by omega)⟩
theorem containsE_any (w:World) (B n C:Nat) (A:Option Addr) (es:List En) (e:En) (hE:Els w B A es) (hn:es.length=n) (hl:n≤1048576) (hr:Rise es) :
    Calls Tryz.prog 102 #[.slice A n C,e.agg] w fun x w'=>x=.returned (.bool (decide (e ∈ es)))∧Only (fun _=>False) w w':=by
  have HV:=hide (Ev.new w e)
  have HO:=hide (onlyA w (.cells #[.string e.key,.int .i64 e.page,.int .i64 e.slot] 89))
  have HI:Hid (∀ W,Only (fun _=>False) w W→Calls Tryz.prog 147 #[.slice A n C,.agg #[.string e.key,.int .i64 e.page,.int .i64 e.slot]] W fun x w'=>x=.returned (.int .i64 (idxE es e))∧Only (fun _=>False) W w'):=fun W ho=>indexE_any W B n C A es e (hE.kept ho (fun _ h=>h)) hn (by omega) hr
  have HD:Hid (decide (0≤idxE es e)=decide (e ∈ es)):=by
    unfold Hid idxE
    by_cases k:e ∈ es
    · rw [if_pos k,decide_eq_true k,decide_eq_true (by omega)]
    · rw [if_neg k,decide_eq_false k]; decide
  clear hE hn hl hr
  obtain ⟨I,hI⟩:=exq (idxE es e)
  rw [hI] at HI HD
  rw [← HD.out]
  clear hI HD
  unfold En.agg
  go_enter Tryz.func102,Tryz.ntmps102
  go_upto_region 1 with fail
  obtain ⟨W0,hW0⟩:=exq (w.alloc (.cells #[.string e.key,.int .i64 e.page,.int .i64 e.slot] 89))
  rw [hW0] at HV HO ⊢
  clear hW0
  obtain ⟨d0,d1,d2,_⟩:=HV.out
  go_wp2_with fail
  refine (HI.out _ HO.out).mono ?_
  rintro x w1 ⟨rfl,ho⟩
  have HO1:=hide (o2 HO.out ho)
  clear ho
  go_wp2_with fail
  go_ret
  exact ⟨rfl,HO1.out⟩
theorem neqE_run (a b:En) (w:World):(binOp .neq 89 (.agg #[.string a.key,.int .i64 a.page,.int .i64 a.slot]) (.agg #[.string b.key,.int .i64 b.page,.int .i64 b.slot])).run Tryz.prog w=.ok (.bool (!decide (a=b))) w:=by
  obtain ⟨k,p,s⟩:=a
  obtain ⟨k',p',s'⟩:=b
  by_cases h1:k=k'
  · by_cases h2:p=p'
    · by_cases h3:s=s'
      · subst h1 h2 h3
        simp [go_sem]
      · simp [go_sem,h1,h2,h3]
    · simp [go_sem,h1,h2]
  · have h4:=ba_neN h1
    have h5:¬ k.toList=k'.toList:=by simpa using h4
    simp [go_sem,h1,h5]
def Nd.std (X:Nd) (e:En):Bool:=decide ((X.lv=0∨e≠noE)∧e ∈ X.es)
set_option maxHeartbeats 1600000 in
theorem stands_nd (w:World) (a:Int) (X:Nd) (e:En) (B cp:Nat) (ao:Option Addr) (hP:Nm w X B ao) :
    Calls Tryz.prog 56 #[.agg #[.int .i64 a,.int .i64 3,.int .i64 X.lv,.int .i64 X.rt,.string (hiB X.hi),.slice ao X.items.length cp],e.agg] w fun x w'=>x=.returned (.bool (X.std e))∧Only (fun _=>False) w w':=by
  have HX:=hide (pe_new w (.int .i64 a) (.int .i64 3) (.int .i64 X.lv) (.int .i64 X.rt) (.string (hiB X.hi)) (.slice ao X.items.length cp) e)
  have HCT:Hid (∀ (W W':World) (A:Option Addr) (n C base:Nat),Ets W base (.slice A n C) X.es→Only (fun _=>False) W W'→Calls Tryz.prog 102 #[.slice A n C,.agg #[.string e.key,.int .i64 e.page,.int .i64 e.slot]] W' fun x w'=>x=.returned (.bool (decide (e ∈ X.es)))∧Only (fun _=>False) W' w'):=fun W W' A n C base hE ho=>by
    obtain ⟨B1,hels,hln⟩:=hE.elsOf
    obtain ⟨lo,hk⟩:=hP.ok
    exact containsE_any W' B1 n C A X.es e (hels.kept ho (fun _ h=>h)) hln (by have:=hP.few; rw [Nd.es_len] at hln; omega) hk.rise
  rcases Nat.eq_zero_or_pos X.lv with v | v
  · have HR:=hide (entries_ok _ a X.rt (hiB X.hi) X.hi B cp ao X.items X.es ((hP.more HX.out.2.2).lp v))
    have HS:Hid (X.std e=decide (e ∈ X.es)):=by
      unfold Hid Nd.std
      exact decide_eq_decide.2 ⟨fun k=>k.2,fun k=>⟨.inl v,k⟩⟩
    rw [HS.out]
    rw [v] at HX HR ⊢
    rw [Int.ofNat_zero] at HX HR ⊢
    clear hP HS
    obtain ⟨D,hD⟩:=exq (decide (e ∈ X.es))
    obtain ⟨R,hR⟩:=exq ((X.rt:Int))
    obtain ⟨h,hh⟩:=exq (hiB X.hi)
    obtain ⟨n,hn⟩:=exq (X.items.length)
    obtain ⟨m,hm⟩:=exq (X.es.length)
    rw [hR,hh,hn] at HX HR ⊢
    rw [hD] at HCT ⊢
    unfold EnR at HR
    rw [hm] at HR
    unfold En.agg
    clear hR hh hn hD hm
    go_enter Tryz.func56,Tryz.ntmps56
    go_upto_region 1 with fail
    obtain ⟨W0,hW0⟩:=exq ((w.alloc (.cells #[.int .i64 a,.int .i64 3,.int .i64 0,.int .i64 R,.string h,.slice ao n cp] 37)).alloc (.cells #[.string e.key,.int .i64 e.page,.int .i64 e.slot] 89))
    rw [hW0] at HX HR ⊢
    clear hW0
    obtain ⟨p0,p1,p2,p3,p4,p5,_⟩:=HX.out.1
    go_wp2_with fail
    refine HR.out.mono ?_
    rintro x w1 ⟨A,C,rfl,he,ho⟩
    have HV1:=hide (HX.out.2.1.more ho)
    have HO1:=hide (o2 HX.out.2.2 ho)
    have HE1:=hide he
    clear he ho p0 p1 p2 p3 p4 p5 HR HX
    obtain ⟨d0,d1,d2,_⟩:=HV1.out
    go_wp2_with fail
    refine (HCT.out _ _ _ _ _ _ HE1.out (Only.refl _ _)).mono ?_
    rintro x w2 ⟨rfl,ho⟩
    have HO2:=hide (o2 HO1.out ho)
    clear ho
    go_wp2_with fail
    go_ret
    exact ⟨rfl,HO2.out⟩
  · have HR:=hide (kids_ok _ a X.lv X.rt (hiB X.hi) X.hi B cp ao X.items X.ks ((hP.more HX.out.2.2).ip v))
    have HS:Hid (X.std e=(!decide (e=noE) && decide (e ∈ X.es))):=by
      unfold Hid Nd.std
      by_cases k:e=noE
      · rw [decide_eq_false (by rintro ⟨q | q,_⟩; omega; exact q k)]; simp [k]
      · by_cases q:e ∈ X.es
        · rw [decide_eq_true ⟨.inr k,q⟩]; simp [k,q]
        · rw [decide_eq_false (fun z=>q z.2)]; simp [q]
    rw [HS.out]
    have hv0:¬ (X.lv:Int)=0:=by omega
    have hq:∀ W:World,(binOp .neq 89 (.agg #[.string e.key,.int .i64 e.page,.int .i64 e.slot]) (.agg #[.string ⟨#[]⟩,.int .i64 0,.int .i64 0])).run Tryz.prog W=.ok (.bool (!decide (e=noE))) W:=fun W=>neqE_run e noE W
    clear hP HS
    obtain ⟨D,hD⟩:=exq (decide (e ∈ X.es))
    obtain ⟨Z,hZ⟩:=exq (decide (e=noE))
    obtain ⟨L,hL⟩:=exq ((X.lv:Int))
    obtain ⟨R,hR⟩:=exq ((X.rt:Int))
    obtain ⟨h,hh⟩:=exq (hiB X.hi)
    obtain ⟨n,hn⟩:=exq (X.items.length)
    rw [hL,hR,hh,hn] at HX HR ⊢
    rw [hL] at hv0
    rw [hD] at HCT ⊢
    rw [hZ] at hq ⊢
    clear hL hR hh hn hD hZ
    unfold En.agg
    go_enter Tryz.func56,Tryz.ntmps56
    go_upto_region 1 with fail
    obtain ⟨W0,hW0⟩:=exq ((w.alloc (.cells #[.int .i64 a,.int .i64 3,.int .i64 L,.int .i64 R,.string h,.slice ao n cp] 37)).alloc (.cells #[.string e.key,.int .i64 e.page,.int .i64 e.slot] 89))
    rw [hW0] at HX HR ⊢
    clear hW0
    obtain ⟨p0,p1,p2,p3,p4,p5,_⟩:=HX.out.1
    go_wp2_with fail
    refine HR.out.mono ?_
    rintro x w1 ⟨A,C,A2,C2,rfl,he,hk,ho⟩
    have HV1:=hide (HX.out.2.1.more ho)
    have HO1:=hide (o2 HX.out.2.2 ho)
    have HE1:Hid (Ets w1 W0.heap.size (.slice A X.ks.length C) X.es):=he
    clear he hk ho p0 p1 p2 p3 p4 p5 HR HX
    obtain ⟨d0,d1,d2,_⟩:=HV1.out
    cases Z with
    | true=>
      go_wp2_with fail
      go_ret
      exact ⟨rfl,HO1.out⟩
    | false=>
      go_wp2_with fail
      refine (HCT.out _ _ _ _ _ _ HE1.out (Only.refl _ _)).mono ?_
      rintro x w2 ⟨rfl,ho⟩
      have HO2:=hide (o2 HO1.out ho)
      clear ho
      go_wp2_with fail
      go_ret
      exact ⟨by simp,HO2.out⟩
def Nd.bad (X:Nd) (e:En):Prop:=e.ok=false∨e ∈ X.es∨(X.lv=0∧byd X.hi e=true)∨(0 < X.lv∧blw X.hi e=false)
instance (X:Nd) (e:En):Decidable (X.bad e):=by unfold Nd.bad; infer_instance
def WiQ (w w':World) (x:Ending) (a:Int) (X:Nd):Option (En × Int)→Prop
  | none=>Res w w' x .none 140
  | some k=>(X.bad k.1→Res w w' x .none 140)∧(¬ X.bad k.1→Or3 w w' x (512 < (X.ins k.1 k.2).size) ((X.ins k.1 k.2).pg a))
theorem wi_new (w:World) (v0 v1 v2 v3 v4 v5:Value):Pag ((w.alloc (.cells #[v0,v1,v2,v3,v4,v5] 37)).alloc (.cells #[.int .i64 0,.int .i64 0,.int .i64 0,.int .i64 0,.string ⟨#[]⟩,.slice none 0 0] 37)) w.heap.size v0 v1 v2 v3 v4 v5∧Pag ((w.alloc (.cells #[v0,v1,v2,v3,v4,v5] 37)).alloc (.cells #[.int .i64 0,.int .i64 0,.int .i64 0,.int .i64 0,.string ⟨#[]⟩,.slice none 0 0] 37)) (w.heap.size+1) (.int .i64 0) (.int .i64 0) (.int .i64 0) (.int .i64 0) (.string ⟨#[]⟩) (.slice none 0 0)∧Only (fun _=>False) w ((w.alloc (.cells #[v0,v1,v2,v3,v4,v5] 37)).alloc (.cells #[.int .i64 0,.int .i64 0,.int .i64 0,.int .i64 0,.string ⟨#[]⟩,.slice none 0 0] 37)):=by
  refine ⟨(Pag.new w v0 v1 v2 v3 v4 v5).more (onlyA _ _),?_,o2 (onlyA _ _) (onlyA _ _)⟩
  have e1:=Pag.new (w.alloc (.cells #[v0,v1,v2,v3,v4,v5] 37)) (.int .i64 0) (.int .i64 0) (.int .i64 0) (.int .i64 0) (.string ⟨#[]⟩) (.slice none 0 0)
  rw [World.size_alloc] at e1
  exact e1
theorem InsQ.wi {w w':World} {x:Ending} {a:Int} {X:Nd} {e:En} {c:Int} (hv:X.lv=0) (hf:X.ks.length≤82) (q:InsQ w w' x a X.rt (hiB X.hi) X.hi e X.items X.es):(X.bad e→Res w w' x .none 140)∧(¬ X.bad e→Or3 w w' x (512 < (X.ins e c).size) ((X.ins e c).pg a)):=by
  refine ⟨fun b=>q.bad ?_,fun b=>?_⟩
  · rcases b with b | b | b | b
    · exact .inl b
    · exact .inr (.inr b)
    · exact .inr (.inl b.2)
    · exact absurd hv (by omega)
  · have h1:e.ok=true:=by
      cases k:e.ok
      · exact absurd (.inl k) b
      · rfl
    have h2:byd X.hi e=false:=by
      cases k:byd X.hi e
      · rfl
      · exact absurd (.inr (.inr (.inl ⟨hv,k⟩))) b
    have g:=q.good h1 h2 (fun k=>b (.inr (.inl k)))
    have ei:insI X.items X.es e=(X.ins e c).items:=by
      rw [Nd.ins_items]
      unfold insI itB
      rw [if_pos hv]
    have el:(X.ins e c).items.length=X.ks.length+1:=by rw [Nd.items_len]; exact insK_len _ _ _
    rw [ei] at g
    have es:(255 < (X.ins e c).items.length∨512 < 20+(hiB X.hi).size+isz (X.ins e c).items) ↔ 512 < (X.ins e c).size:=by
      unfold Nd.size
      show _ ↔ 512 < 20+(hiB X.hi).size+_
      omega
    have ep:(⟨a,3,0,X.rt,hiB X.hi,(X.ins e c).items⟩:Pg)=(X.ins e c).pg a:=by
      show _=(⟨a,3,((X.lv:Nat):Int),X.rt,hiB X.hi,(X.ins e c).items⟩:Pg)
      rw [hv]; rfl
    rw [ep] at g
    exact ⟨fun z=>g.1 (es.2 z),fun z=>g.2 (fun y=>z (es.1 y))⟩
theorem PosQ.wi {w w':World} {x:Ending} {a:Int} {X:Nd} {e:En} {c:Int} (hv:0 < X.lv) (hf:X.ks.length≤82) (hc:okC c=true) (q:PosQ w w' x a X.lv X.rt (hiB X.hi) X.hi e c X.items X.ks):(X.bad e→Res w w' x .none 140)∧(¬ X.bad e→Or3 w w' x (512 < (X.ins e c).size) ((X.ins e c).pg a)):=by
  refine ⟨fun b=>q.bad ?_,fun b=>?_⟩
  · rcases b with b | b | b | b
    · exact .inl b
    · exact .inr (.inr (.inr b))
    · exact absurd b.1 (by omega)
    · exact .inr (.inl b.2)
  · have h1:e.ok=true:=by
      cases k:e.ok
      · exact absurd (.inl k) b
      · rfl
    have h2:blw X.hi e=true:=by
      cases k:blw X.hi e
      · exact absurd (.inr (.inr (.inr ⟨hv,k⟩))) b
      · rfl
    have g:=q.good h1 h2 hc (fun k=>b (.inr (.inl k)))
    have ei:posI X.items X.ks e c=(X.ins e c).items:=by
      rw [Nd.ins_items]
      unfold posI itB
      rw [if_neg (by omega)]
      rfl
    have el:(X.ins e c).items.length=X.ks.length+1:=by rw [Nd.items_len]; exact insK_len _ _ _
    rw [ei] at g
    have es:(255 < (X.ins e c).items.length∨512 < 20+(hiB X.hi).size+isz (X.ins e c).items) ↔ 512 < (X.ins e c).size:=by
      unfold Nd.size
      show _ ↔ 512 < 20+(hiB X.hi).size+_
      omega
    exact ⟨fun z=>g.1 (es.2 z),fun z=>g.2 (fun y=>z (es.1 y))⟩
theorem Or3.some {w w':World} {x:Ending} {c:Prop} [Decidable c] {P:Pg} (h:Or3 w w' x c P):Res w w' x (if c then .none else P) (if c then 3 else 0):=by
  by_cases k:c
  · rw [if_pos k,if_pos k]; exact h.1 k
  · rw [if_neg k,if_neg k]; exact h.2 k
def Nd.wiP (X:Nd) (a:Int):Option (En × Int)→Pg
  | none=>.none
  | some k=>if X.bad k.1 then .none else if 512 < (X.ins k.1 k.2).size then .none else (X.ins k.1 k.2).pg a
def Nd.wiK (X:Nd):Option (En × Int)→Int
  | none=>140
  | some k=>if X.bad k.1 then 140 else if 512 < (X.ins k.1 k.2).size then 3 else 0
theorem wi_some {w w':World} {x:Ending} {a:Int} {X:Nd} {k:En × Int} (h:(X.bad k.1→Res w w' x .none 140)∧(¬ X.bad k.1→Or3 w w' x (512 < (X.ins k.1 k.2).size) ((X.ins k.1 k.2).pg a))):Res w w' x (X.wiP a (some k)) (X.wiK (some k)):=by
  unfold Nd.wiP Nd.wiK
  simp only []
  by_cases b:X.bad k.1
  · rw [if_pos b,if_pos b]; exact h.1 b
  · rw [if_neg b,if_neg b]; exact (h.2 b).some
set_option maxHeartbeats 3200000 in
theorem with_nd (w:World) (a:Int) (X:Nd) (s:ByteArray) (B cp:Nat) (ao:Option Addr) (hP:Nm w X B ao) (hF:Fit ao X.items.length cp) :
    Calls Tryz.prog 57 #[.agg #[.int .i64 a,.int .i64 3,.int .i64 X.lv,.int .i64 X.rt,.string (hiB X.hi),.slice ao X.items.length cp],.string s] w fun x w'=>Res w w' x (X.wiP a (brd X.lv s)) (X.wiK (brd X.lv s)):=by
  have HX:=hide (wi_new w (.int .i64 a) (.int .i64 3) (.int .i64 X.lv) (.int .i64 X.rt) (.string (hiB X.hi)) (.slice ao X.items.length cp))
  have HB:=hide (fun W=>bread_any X.lv s W)
  cases hb:brd X.lv s with
  | none=>
    rw [hb] at HB
    clear hb hP hF
    have HB2:Hid (∀ W,Calls Tryz.prog 55 #[.int .i64 X.lv,.string s] W fun x w'=>x=.returned (.tuple #[.agg #[.string ⟨#[]⟩,.int .i64 0,.int .i64 0],.int .i64 0,.int .i64 140])∧Only (fun _=>False) W w'):=HB
    clear HB
    show Calls _ _ _ _ fun x w'=>Res w w' x .none 140
    obtain ⟨L,hL⟩:=exq ((X.lv:Int))
    obtain ⟨R,hR⟩:=exq ((X.rt:Int))
    obtain ⟨h,hh⟩:=exq (hiB X.hi)
    obtain ⟨n,hn⟩:=exq (X.items.length)
    rw [hL,hR,hh,hn] at HX ⊢
    rw [hL] at HB2
    clear hL hR hh hn
    go_enter Tryz.func57,Tryz.ntmps57
    go_upto_region 1 with fail
    obtain ⟨W0,hW0⟩:=exq ((w.alloc (.cells #[.int .i64 a,.int .i64 3,.int .i64 L,.int .i64 R,.string h,.slice ao n cp] 37)).alloc (.cells #[.int .i64 0,.int .i64 0,.int .i64 0,.int .i64 0,.string ⟨#[]⟩,.slice none 0 0] 37))
    rw [hW0] at HX ⊢
    clear hW0
    obtain ⟨p0,p1,p2,p3,p4,p5,_⟩:=HX.out.1
    go_wp2_with fail
    refine (HB2.out _).mono ?_
    rintro x w1 ⟨rfl,ho⟩
    have HQ1:=hide (HX.out.2.1.more ho)
    have HO1:=hide (o2 HX.out.2.2 ho)
    clear ho p0 p1 p2 p3 p4 p5 HX HB2
    go_upto_region 2 with fail
    have HA:=hide (onlyA w1 (.cells #[.string ⟨#[]⟩,.int .i64 0,.int .i64 0] 89))
    obtain ⟨w2,hw2⟩:=exq (w1.alloc (.cells #[.string ⟨#[]⟩,.int .i64 0,.int .i64 0] 89))
    rw [hw2] at HA ⊢
    clear hw2
    have HQ2:=hide (HQ1.out.more HA.out)
    have HO2:=hide (o2 HO1.out HA.out)
    clear HA HQ1 HO1
    obtain ⟨q0,q1,q2,q3,q4,q5,g0,g1,g2,g3,g4,g5,ql⟩:=HQ2.out
    go_wp2_with fail
    refine bodyPost_ret (results_page rfl rfl (Pag.six HQ2.out _ _ _ _ _ _)) rfl ?_
    exact resErr _ HO2.out (by omega)
  | some k=>
    obtain ⟨e,c⟩:=k
    rw [hb] at HB
    have HB2:Hid (∀ W,Calls Tryz.prog 55 #[.int .i64 X.lv,.string s] W fun x w'=>x=.returned (.tuple #[.agg #[.string e.key,.int .i64 e.page,.int .i64 e.slot],.int .i64 c,.int .i64 0])∧Only (fun _=>False) W w'):=HB
    clear HB
    have HPT:Hid (X.lv=0→∀ W,Only (fun _=>False) w W→Calls Tryz.prog 46 #[.agg #[.int .i64 a,.int .i64 3,.int .i64 X.lv,.int .i64 X.rt,.string (hiB X.hi),.slice ao X.items.length cp],.agg #[.string e.key,.int .i64 e.page,.int .i64 e.slot]] W fun x w'=>Res W w' x (X.wiP a (some (e,c))) (X.wiK (some (e,c)))):=fun v W ho=>by
      have h:=insert_ok W a X.rt (hiB X.hi) X.hi e B cp ao X.items X.es ((hP.more ho).lp v) hF
      rw [v,Int.ofNat_zero]
      exact h.mono (fun x w' q=>wi_some (k:=(e,c)) (InsQ.wi v hP.few q))
    have HPS:Hid (0 < X.lv→∀ W,Only (fun _=>False) w W→Calls Tryz.prog 104 #[.agg #[.int .i64 a,.int .i64 3,.int .i64 X.lv,.int .i64 X.rt,.string (hiB X.hi),.slice ao X.items.length cp],.agg #[.string e.key,.int .i64 e.page,.int .i64 e.slot],.int .i64 c] W fun x w'=>Res W w' x (X.wiP a (some (e,c))) (X.wiK (some (e,c)))):=fun v W ho=>by
      have hc:okC c=true:=by
        unfold brd at hb
        rw [if_neg (by omega)] at hb
        exact (decS_some hb).2.1
      have h:=post_ok W a X.lv X.rt (hiB X.hi) X.hi e c B cp ao X.items X.ks ((hP.more ho).ip v) hF
      exact h.mono (fun x w' q=>wi_some (k:=(e,c)) (PosQ.wi v hP.few hc q))
    clear hb hP hF
    obtain ⟨P,hP⟩:=exq (X.wiP a (some (e,c)))
    obtain ⟨K,hK⟩:=exq (X.wiK (some (e,c)))
    obtain ⟨R,hR⟩:=exq ((X.rt:Int))
    obtain ⟨h,hh⟩:=exq (hiB X.hi)
    obtain ⟨n,hn⟩:=exq (X.items.length)
    rw [hP,hK] at HPT HPS ⊢
    rw [hR,hh,hn] at HX HPT HPS ⊢
    clear hP hK hR hh hn
    rcases Nat.eq_zero_or_pos X.lv with v | v
    · have HPT1:=hide (HPT.out v)
      rw [v,Int.ofNat_zero] at HPT1 HX HB2 ⊢
      clear v HPT HPS
      go_enter Tryz.func57,Tryz.ntmps57
      go_upto_region 1 with fail
      obtain ⟨W0,hW0⟩:=exq ((w.alloc (.cells #[.int .i64 a,.int .i64 3,.int .i64 0,.int .i64 R,.string h,.slice ao n cp] 37)).alloc (.cells #[.int .i64 0,.int .i64 0,.int .i64 0,.int .i64 0,.string ⟨#[]⟩,.slice none 0 0] 37))
      rw [hW0] at HX ⊢
      clear hW0
      obtain ⟨p0,p1,p2,p3,p4,p5,_⟩:=HX.out.1
      go_wp2_with fail
      refine (HB2.out _).mono ?_
      rintro x w1 ⟨rfl,ho⟩
      have HP1:=hide (HX.out.1.more ho)
      have HQ1:=hide (HX.out.2.1.more ho)
      have HO1:=hide (o2 HX.out.2.2 ho)
      have HZ1:Hid (w.heap.size+1 < W0.heap.size):=HX.out.2.1.lt
      have HZ2:=hide ho.size
      clear ho p0 p1 p2 p3 p4 p5 HX HB2
      go_upto_region 2 with fail
      have HA:=hide (onlyA w1 (.cells #[.string e.key,.int .i64 e.page,.int .i64 e.slot] 89))
      have HV:=hide (Ev.new w1 e)
      obtain ⟨cb,hcb⟩:=exq (w1.heap.size)
      rw [hcb] at HV HZ2 ⊢
      clear hcb
      obtain ⟨w2,hw2⟩:=exq (w1.alloc (.cells #[.string e.key,.int .i64 e.page,.int .i64 e.slot] 89))
      rw [hw2] at HA HV ⊢
      clear hw2
      have HP2:=hide (HP1.out.more HA.out)
      have HQ2:=hide (HQ1.out.more HA.out)
      have HO2:=hide (o2 HO1.out HA.out)
      clear HA HP1 HQ1 HO1
      obtain ⟨p0,p1,p2,p3,p4,p5,_⟩:=HP2.out
      obtain ⟨d0,d1,d2,_⟩:=HV.out
      go_wp2_with fail
      refine (HPT1.out _ HO2.out).mono ?_
      rintro x w4 ⟨B5,ao5,cp5,rfl,hS5,hF5,ho5,hB5⟩
      have HX2:=hide ho5
      have HS7:=hide (And.intro hS5 (And.intro hF5 hB5))
      have HQ7:=hide (HQ2.out.more ho5)
      have HZ7:Hid (w.heap.size+1 < w2.heap.size):=HQ2.out.lt
      clear hS5 hF5 ho5 hB5 p0 p1 p2 p3 p4 p5 d0 d1 d2
      obtain ⟨q0,q1,q2,q3,q4,q5,g0,g1,g2,g3,g4,g5,ql⟩:=HQ7.out
      go_wp2_with fail
      refine bodyPost_ret (results_page rfl rfl (Pag.six HQ7.out _ _ _ _ _ _)) rfl ?_
      exact resSix (p:=P) (k:=K) HS7.out.1 HS7.out.2.1 HX2.out HS7.out.2.2 HO2.out (w.heap.size+1) (by omega) HZ7.out _ _ _ _ _ _
    · have HPT1:=hide (HPS.out v)
      have hv0:¬ (X.lv:Int)=0:=by omega
      obtain ⟨L,hL⟩:=exq ((X.lv:Int))
      rw [hL] at HPT1 HX HB2 hv0 ⊢
      clear v HPT HPS hL
      go_enter Tryz.func57,Tryz.ntmps57
      go_upto_region 1 with fail
      obtain ⟨W0,hW0⟩:=exq ((w.alloc (.cells #[.int .i64 a,.int .i64 3,.int .i64 L,.int .i64 R,.string h,.slice ao n cp] 37)).alloc (.cells #[.int .i64 0,.int .i64 0,.int .i64 0,.int .i64 0,.string ⟨#[]⟩,.slice none 0 0] 37))
      rw [hW0] at HX ⊢
      clear hW0
      obtain ⟨p0,p1,p2,p3,p4,p5,_⟩:=HX.out.1
      go_wp2_with fail
      refine (HB2.out _).mono ?_
      rintro x w1 ⟨rfl,ho⟩
      have HP1:=hide (HX.out.1.more ho)
      have HQ1:=hide (HX.out.2.1.more ho)
      have HO1:=hide (o2 HX.out.2.2 ho)
      clear ho p0 p1 p2 p3 p4 p5 HX HB2
      go_upto_region 2 with fail
      have HA:=hide (onlyA w1 (.cells #[.string e.key,.int .i64 e.page,.int .i64 e.slot] 89))
      have HV:=hide (Ev.new w1 e)
      obtain ⟨cb,hcb⟩:=exq (w1.heap.size)
      rw [hcb] at HV ⊢
      clear hcb
      obtain ⟨w2,hw2⟩:=exq (w1.alloc (.cells #[.string e.key,.int .i64 e.page,.int .i64 e.slot] 89))
      rw [hw2] at HA HV ⊢
      clear hw2
      have HP2:=hide (HP1.out.more HA.out)
      have HQ2:=hide (HQ1.out.more HA.out)
      have HO2:=hide (o2 HO1.out HA.out)
      clear HA HP1 HQ1 HO1
      obtain ⟨p0,p1,p2,p3,p4,p5,_⟩:=HP2.out
      obtain ⟨d0,d1,d2,_⟩:=HV.out
      go_wp2_with fail
      refine (HPT1.out _ HO2.out).mono ?_
      rintro x w4 ⟨B5,ao5,cp5,rfl,hS5,hF5,ho5,hB5⟩
      have HX2:=hide ho5
      have HS7:=hide (And.intro hS5 (And.intro hF5 hB5))
      have HQ7:=hide (HQ2.out.more ho5)
      have HZ7:Hid (w.heap.size+1 < w2.heap.size):=HQ2.out.lt
      clear hS5 hF5 ho5 hB5 p0 p1 p2 p3 p4 p5 d0 d1 d2
      obtain ⟨q0,q1,q2,q3,q4,q5,g0,g1,g2,g3,g4,g5,ql⟩:=HQ7.out
      go_wp2_with fail
      refine bodyPost_ret (results_page rfl rfl (Pag.six HQ7.out _ _ _ _ _ _)) rfl ?_
      exact resSix (p:=P) (k:=K) HS7.out.1 HS7.out.2.1 HX2.out HS7.out.2.2 HO2.out (w.heap.size+1) (by omega) HZ7.out _ _ _ _ _ _
theorem isBeyondB_nd (w:World) (a:Int) (X:Nd) (s:ByteArray) (e:En) (c:Int) (B cp:Nat) (ao:Option Addr) (hP:Nm w X B ao) (hs:brd X.lv s=some (e,c)) (he:e.ok=true) :
    Calls Tryz.prog 187 #[.agg #[.int .i64 a,.int .i64 3,.int .i64 X.lv,.int .i64 X.rt,.string (hiB X.hi),.slice ao X.items.length cp],.string s] w fun x w'=>x=.returned (.bool (byd X.hi e))∧Only (fun _=>False) w w':=by
  have HP:=hide (Pag.new w (.int .i64 a) (.int .i64 3) (.int .i64 X.lv) (.int .i64 X.rt) (.string (hiB X.hi)) (.slice ao X.items.length cp))
  have HO:=hide (onlyA w (.cells #[.int .i64 a,.int .i64 3,.int .i64 X.lv,.int .i64 X.rt,.string (hiB X.hi),.slice ao X.items.length cp] 37))
  have HB2:Hid (∀ W,Calls Tryz.prog 55 #[.int .i64 X.lv,.string s] W fun x w'=>x=.returned (.tuple #[.agg #[.string e.key,.int .i64 e.page,.int .i64 e.slot],.int .i64 c,.int .i64 0])∧Only (fun _=>False) W w'):=fun W=>by
    have h:=bread_any X.lv s W
    rw [hs] at h
    exact h
  have HY:Hid (∀ W,Only (fun _=>False) w W→Calls Tryz.prog 53 #[.agg #[.int .i64 a,.int .i64 3,.int .i64 X.lv,.int .i64 X.rt,.string (hiB X.hi),.slice ao X.items.length cp],.agg #[.string e.key,.int .i64 e.page,.int .i64 e.slot]] W fun x w'=>x=.returned (.tuple #[.bool (byd X.hi e),.int .i64 0])∧Only (fun _=>False) W w'):=fun W ho=>by
    have h:=beyond_nd W a X e B cp ao (hP.more ho)
    unfold byV at h
    rw [if_pos he] at h
    exact h
  clear hP hs he
  obtain ⟨L,hL⟩:=exq ((X.lv:Int))
  obtain ⟨R,hR⟩:=exq ((X.rt:Int))
  obtain ⟨h,hh⟩:=exq (hiB X.hi)
  obtain ⟨n,hn⟩:=exq (X.items.length)
  obtain ⟨Y,hY⟩:=exq (byd X.hi e)
  rw [hL,hR,hh,hn] at HP HO HY ⊢
  rw [hL] at HB2
  rw [hY] at HY ⊢
  clear hL hR hh hn hY
  go_enter Tryz.func187,Tryz.ntmps187
  go_upto_region 1 with fail
  obtain ⟨W0,hW0⟩:=exq (w.alloc (.cells #[.int .i64 a,.int .i64 3,.int .i64 L,.int .i64 R,.string h,.slice ao n cp] 37))
  rw [hW0] at HP HO ⊢
  clear hW0
  obtain ⟨p0,p1,p2,p3,p4,p5,_⟩:=HP.out
  go_wp2_with fail
  refine (HB2.out _).mono ?_
  rintro x w1 ⟨rfl,ho⟩
  have HP1:=hide (HP.out.more ho)
  have HO1:=hide (o2 HO.out ho)
  clear ho p0 p1 p2 p3 p4 p5 HP HO HB2
  go_upto_region 2 with fail
  have HA:=hide (onlyA w1 (.cells #[.string e.key,.int .i64 e.page,.int .i64 e.slot] 89))
  have HV:=hide (Ev.new w1 e)
  obtain ⟨cb,hcb⟩:=exq (w1.heap.size)
  rw [hcb] at HV ⊢
  clear hcb
  obtain ⟨w2,hw2⟩:=exq (w1.alloc (.cells #[.string e.key,.int .i64 e.page,.int .i64 e.slot] 89))
  rw [hw2] at HA HV ⊢
  clear hw2
  have HP2:=hide (HP1.out.more HA.out)
  have HO2:=hide (o2 HO1.out HA.out)
  clear HA HP1 HO1
  obtain ⟨p0,p1,p2,p3,p4,p5,_⟩:=HP2.out
  obtain ⟨d0,d1,d2,_⟩:=HV.out
  go_wp2_with fail
  refine (HY.out _ HO2.out).mono ?_
  rintro x w3 ⟨rfl,ho⟩
  have HO3:=hide (o2 HO2.out ho)
  clear ho
  go_wp2_with fail
  go_ret
  exact ⟨rfl,HO3.out⟩
theorem cat_eqU (a:List UInt8) (s:ByteArray):(⟨a.toArray⟩:ByteArray)++s=⟨(a++s.data.toList).toArray⟩:=by
  obtain ⟨⟨l⟩⟩:=s
  apply ByteArray.ext
  simp
def Md (m:Int):Prop:=16≤m∧m≤1024∧m % 2=0
instance (m:Int):Decidable (Md m):=by unfold Md; infer_instance
def Idd (m x:Int):Prop:=Md m∧1≤x∧x≤m
instance (m x:Int):Decidable (Idd m x):=by unfold Idd; infer_instance
def xadd (m x n:Int):Int:=if Idd m x then (x - 1+n) % m+1 else 0
def xgap (m a b:Int):Int:=if Idd m a∧Idd m b then (b - a) % m else 0
def xbef (m a b:Int):Bool:=decide (1≤xgap m a b∧xgap m a b≤m / 2 - 1)
def I64 (n:Int):Prop:=-9223372036854775808≤n∧n < 9223372036854775808
theorem tmod2 {m:Int} (h:0≤m):m.tmod 2=m % 2:=Int.tmod_eq_emod_of_nonneg h
theorem emod_bd {m n:Int} (h:16≤m):0≤n % m∧n % m < m:=⟨Int.emod_nonneg n (by omega),Int.emod_lt_of_pos n (by omega)⟩
theorem tmod_two {m n:Int} (h:16≤m):n.tmod m=n % m∨(n.tmod m=n % m - m∧0 < n % m):=by
  have h1:n.tmod m=n % m - ↑(if 0≤n∨m ∣ n then 0 else m.natAbs):=Int.tmod_eq_emod
  by_cases hc:0≤n∨m ∣ n
  · rw [if_pos hc] at h1
    exact .inl (by omega)
  · rw [if_neg hc] at h1
    have h2:=emod_bd (n:=n) h
    have h3:¬ n % m=0:=fun e=>hc (.inr (Int.dvd_of_emod_eq_zero e))
    exact .inr ⟨by omega,by omega⟩
theorem tmod_bd {m n:Int} (h:16≤m):-m < n.tmod m∧n.tmod m < m:=by
  have h2:=emod_bd (n:=n) h
  rcases tmod_two (n:=n) h with e | ⟨e,_⟩ <;> rw [e] <;> omega
theorem around_is {m n:Int} (h:16≤m):(n.tmod m+m).tmod m=n % m:=by
  have h2:=emod_bd (n:=n) h
  have h4:=tmod_bd (n:=n) h
  rw [Int.tmod_eq_emod_of_nonneg (show 0≤n.tmod m+m by omega)]
  rcases tmod_two (n:=n) h with e | ⟨e,_⟩ <;> rw [e]
  · rw [Int.add_emod_right]; exact Int.emod_eq_of_lt h2.1 h2.2
  · rw [Int.sub_add_cancel]; exact Int.emod_eq_of_lt h2.1 h2.2
theorem plus_mod (y n m:Int):(y+n % m) % m=(y+n) % m:=by
  rw [Int.add_emod,Int.emod_emod_of_dvd _ (Int.dvd_refl m),← Int.add_emod]
theorem add_is {m y n:Int} (h:16≤m):(y+n.tmod m) % m=(y+n) % m:=by
  rcases tmod_two (n:=n) h with e | ⟨e,_⟩ <;> rw [e]
  · exact plus_mod y n m
  · rw [show y+(n % m - m)=y+n % m - m from by omega,Int.sub_emod_right]; exact plus_mod y n m
theorem xgap_bd {m a b:Int}:0≤xgap m a b∧xgap m a b < 1024:=by
  unfold xgap
  split
  · rename_i h
    have:=emod_bd (m:=m) (n:=b - a) h.1.1.1
    have:=h.1.1.2.1
    omega
  · omega
theorem xadd_id {m x n:Int} (h:Idd m x):Idd m (xadd m x n):=by
  unfold xadd
  rw [if_pos h]
  have:=emod_bd (m:=m) (n:=x - 1+n) h.1.1
  exact ⟨h.1,by omega,by omega⟩
theorem xadd_bd {m x n:Int}:0≤xadd m x n∧xadd m x n≤1024:=by
  by_cases h:Idd m x
  · have h1:=xadd_id (n:=n) h
    have:=h1.1.2.1
    have:=h1.2
    omega
  · unfold xadd; rw [if_neg h]; omega
theorem mod_back {m y:Int} (h0:-m≤y) (h1:y < m):y % m=if 0≤y then y else y+m:=by
  split
  · exact Int.emod_eq_of_lt (by omega) (by omega)
  · have e:y=(y+m) - m:=by omega
    rw [e,Int.sub_emod_right,Int.emod_eq_of_lt (by omega) (by omega)]
    omega
theorem ring_gap {m a b:Int} (h:Idd m a) (h':Idd m b):xgap m a b=if a≤b then b - a else b - a+m:=by
  have hm:=h.1.1
  have h2:=h.2
  have h3:=h'.2
  unfold xgap
  rw [if_pos ⟨h,h'⟩,mod_back (by omega) (by omega)]
  split <;> split <;> omega
theorem isModulus_any (m:Int) (w:World) (hm:I64 m) :
    Calls Tryz.prog 153 #[.int .i64 m] w fun e w'=>e=.returned (.bool (decide (Md m)))∧w'=w:=by
  have hm1:=hm.1
  have hm2:=hm.2
  clear hm
  by_cases h1:16≤m
  · by_cases h2:m≤1024
    · have ht:m.tmod 2=m % 2:=tmod2 (by omega)
      cases h3:(m % 2 == 0)
      all_goals
        have HX:(decide (Md m)=(m % 2 == 0)):=by
          unfold Md; rw [h3]; simp at h3; simp [h1,h2,h3]
        rw [HX,h3]
        go_enter Tryz.func153,Tryz.ntmps153
        go_wp2
        go_ret
        exact ⟨rfl,rfl⟩
    · rw [show decide (Md m)=false from by unfold Md; simp [h2]]
      go_enter Tryz.func153,Tryz.ntmps153
      go_wp2
      go_ret
      exact ⟨rfl,rfl⟩
  · rw [show decide (Md m)=false from by unfold Md; simp [h1]]
    go_enter Tryz.func153,Tryz.ntmps153
    go_wp2
    go_ret
    exact ⟨rfl,rfl⟩
theorem isID_any (m x:Int) (w:World) (hm:I64 m) (hx:I64 x) :
    Calls Tryz.prog 109 #[.int .i64 m,.int .i64 x] w fun e w'=>e=.returned (.bool (decide (Idd m x)))∧w'=w:=by
  have hc:=isModulus_any m w hm
  have hm1:=hm.1
  have hm2:=hm.2
  have hx1:=hx.1
  have hx2:=hx.2
  clear hm hx
  by_cases hM:Md m
  · rw [decide_eq_true hM] at hc
    by_cases h1:1≤x
    · by_cases h2:x≤m
      · rw [show decide (Idd m x)=true from by unfold Idd; simp [h1,h2,hM]]
        clear hM
        go_enter Tryz.func109,Tryz.ntmps109
        go_wp2_with (go_at_call 153; refine hc.mono ?_; rintro e w' ⟨rfl,hw⟩; obtain rfl:=hw.symm; clear hw)
        go_ret
        exact ⟨rfl,rfl⟩
      · rw [show decide (Idd m x)=false from by unfold Idd; simp [h2]]
        have hd:decide (x≤m)=false:=decide_eq_false h2
        clear hM
        go_enter Tryz.func109,Tryz.ntmps109
        go_wp2_with (go_at_call 153; refine hc.mono ?_; rintro e w' ⟨rfl,hw⟩; obtain rfl:=hw.symm; clear hw)
        go_ret
        exact ⟨rfl,rfl⟩
    · rw [show decide (Idd m x)=false from by unfold Idd; simp [h1]]
      clear hM
      go_enter Tryz.func109,Tryz.ntmps109
      go_wp2_with (go_at_call 153; refine hc.mono ?_; rintro e w' ⟨rfl,hw⟩; obtain rfl:=hw.symm; clear hw)
      go_ret
      exact ⟨rfl,rfl⟩
  · rw [decide_eq_false hM] at hc
    rw [show decide (Idd m x)=false from by unfold Idd; simp [hM]]
    clear hM
    go_enter Tryz.func109,Tryz.ntmps109
    go_wp2_with (go_at_call 153; refine hc.mono ?_; rintro e w' ⟨rfl,hw⟩; obtain rfl:=hw.symm; clear hw)
    go_ret
    exact ⟨rfl,rfl⟩
theorem around_any (m n:Int) (w:World) (h:16≤m) (h':m≤1024) (hn:I64 n) :
    Calls Tryz.prog 110 #[.int .i64 m,.int .i64 n] w fun e w'=>e=.returned (.int .i64 (n % m))∧w'=w:=by
  have hn1:=hn.1
  have hn2:=hn.2
  clear hn
  have hb:=tmod_bd (n:=n) h
  have hr:=around_is (n:=n) h
  have he:=emod_bd (n:=n) h
  obtain ⟨k,hk⟩:=exq (n.tmod m)
  obtain ⟨r,hr'⟩:=exq (n % m)
  rw [hk] at hb hr
  rw [hr'] at hr he
  rw [hr']
  clear hr'
  go_enter Tryz.func110,Tryz.ntmps110
  go_wp2
  go_ret
  exact ⟨rfl,rfl⟩
def Nd.nl (X:Nd) (e:En) (k:Int) (j:Nat):Nd:=if byd X.bord e=true then X.left j else (X.left j).ins e k
def Nd.nr (X:Nd) (e:En) (k:Int):Nd:=if byd X.bord e=true then X.right.ins e k else X.right
theorem Nd.good {X:Nd} {e:En} (h:¬ X.bad e):e.ok=true∧e ∉ X.es∧(X.lv=0→byd X.hi e=false)∧(0 < X.lv→blw X.hi e=true):=by
  unfold Nd.bad at h
  refine ⟨?_,fun q=>h (.inr (.inl q)),fun v=>?_,fun v=>?_⟩
  · cases k:e.ok
    · exact absurd (.inl k) h
    · rfl
  · cases k:byd X.hi e
    · rfl
    · exact absurd (.inr (.inr (.inl ⟨v,k⟩))) h
  · cases k:blw X.hi e
    · exact absurd (.inr (.inr (.inr ⟨v,k⟩))) h
    · rfl
theorem Nd.not_bad {X:Nd} {e:En} (h1:e.ok=true) (h2:e ∉ X.es) (h3:X.lv=0→byd X.hi e=false) (h4:0 < X.lv→blw X.hi e=true):¬ X.bad e:=by
  rintro (q | q | ⟨v,q⟩ | ⟨v,q⟩)
  · rw [h1] at q; cases q
  · exact h2 q
  · rw [h3 v] at q; cases q
  · rw [h4 v] at q; cases q
theorem Nd.right_es {X:Nd} (hn:2≤X.ks.length) {e:En} (he:e ∈ X.right.es):e ∈ X.es∨e=noE:=by
  obtain ⟨k,hk,rfl⟩:=List.mem_map.1 he
  rcases Nd.rest_mem hn (show k ∈ X.rest from hk) with q | ⟨_,_,q⟩
  · exact .inl (List.mem_map_of_mem q)
  · exact .inr (by rw [q])
theorem Nd.Ok.bord_mem {X:Nd} (v:0 < X.lv) (hn:2≤X.ks.length):X.bord ∈ X.es:=by
  obtain ⟨h1,e⟩:=Nd.bord_inner v hn
  rw [e]
  exact List.mem_map_of_mem (List.getElem_mem h1)
section
variable {X:Nd} {lo e:En} {k:Int}
theorem Nd.Ok.two (h:X.Ok lo) (hk:X.Kok) (hb:¬ X.bad e) (hc:0 < X.lv→okC k=true) (hf:512 < (X.ins e k).size):13≤X.ks.length∧(X.hi=noE→14≤X.ks.length):=by
  rw [Nd.ins_size] at hf
  exact h.full hk (Nd.good hb).1 hc hf
theorem Nd.Ok.fitsL (h:X.Ok lo) (hk:X.Kok) (hb:¬ X.bad e) (hc:0 < X.lv→okC k=true) (hf:512 < (X.ins e k).size) (hy:byd X.bord e=false) (j:Nat):¬ (X.left j).bad e∧((X.left j).ins e k).size≤512:=by
  obtain ⟨g1,g2,g3,g4⟩:=Nd.good hb
  have hn:2≤X.ks.length:=by have:=(h.two hk hb hc hf).1; omega
  have ho:=(h.bord hn).1
  refine ⟨Nd.not_bad g1 (fun q=>?_) (fun _=>hy) (fun v=>?_),?_⟩
  · obtain ⟨x,hx,rfl⟩:=List.mem_map.1 q
    exact g2 (List.mem_map_of_mem (List.mem_of_mem_take hx))
  · refine blw_yes.2 (.inr ?_)
    show e.lt X.bord
    have v':0 < X.lv:=v
    have ne:e≠X.bord:=fun q=>g2 (by rw [q]; exact Nd.Ok.bord_mem v' hn)
    rcases En.lt_total ne with q | q
    · exact q
    · rcases byd_no.1 hy with z | z
      · exact absurd z (En.ok_ne ho)
      · exact absurd q z
  · rw [Nd.ins_size]
    have a:=h.left_size hk hn j
    have b:=item_up (v:=X.lv) (e:=e) (c:=k) g1 hc
    show (X.left j).size+(2+(itB X.lv (e,k)).size)≤512
    by_cases v:X.lv=0
    · rw [if_pos v] at a
      have:=b.2 v
      omega
    · rw [if_neg v] at a
      have:=b.1
      omega
theorem Nd.Ok.fitsR (h:X.Ok lo) (hk:X.Kok) (hb:¬ X.bad e) (hc:0 < X.lv→okC k=true) (hf:512 < (X.ins e k).size):¬ X.right.bad e∧(X.right.ins e k).size≤512:=by
  obtain ⟨g1,g2,g3,g4⟩:=Nd.good hb
  have h13:=(h.two hk hb hc hf).1
  have hn:2≤X.ks.length:=by omega
  refine ⟨Nd.not_bad g1 (fun q=>?_) g3 g4,?_⟩
  · rcases Nd.right_es hn q with z | z
    · exact g2 z
    · exact En.ok_ne g1 z
  · rw [Nd.ins_size]
    have a:=(h.right_size hk hn).2 (by omega)
    have b:=(item_up (v:=X.lv) (e:=e) (c:=k) g1 hc).1
    show X.right.size+(2+(itB X.lv (e,k)).size)≤512
    omega
end
end Go.Proofs.YtajjakljheafjaaGreat
