/- Parts. -/
import Derived.Test.YtipkeeobmihogaaGreatK14
set_option maxRecDepth 100000
namespace Go.Proofs.YtipkeeobmihogaaGreat
open Go.RowKit
def posI (l:List ByteArray) (ks:List (En × Int)) (e:En) (c:Int):List ByteArray:=l.take (plE (ks.map Prod.fst) e)++e.encS c :: l.drop (plE (ks.map Prod.fst) e)
theorem encS_size {e:En} (c:Int) (h:e.ok=true):(e.encS c).size≤55:=by
  rw [← bl_len,bl_encS]
  exact layS_len c (En.few_ok h).1
structure PosQ (w w':World) (x:Ending) (a v r:Int) (h:ByteArray) (hi e:En) (c:Int) (l:List ByteArray) (ks:List (En × Int)):Prop where
  bad:(e.ok=false∨blw hi e=false∨okC c=false∨e ∈ ks.map Prod.fst)→Res w w' x .none 140
  good:e.ok=true→blw hi e=true→okC c=true→e ∉ ks.map Prod.fst→Or3 w w' x (255 < (posI l ks e c).length∨512 < 20+h.size+isz (posI l ks e c)) ⟨a,3,v,r,h,posI l ks e c⟩
set_option maxHeartbeats 3200000 in
theorem post_ok (w:World) (a v r:Int) (h:ByteArray) (hi e:En) (c:Int) (B cp:Nat) (ao:Option Addr) (l:List ByteArray) (ks:List (En × Int)) (hP:Ip w v r h hi B ao l ks) (hF:Fit ao l.length cp) :
    Calls Tryz.prog 40 #[.agg #[.int .i64 a,.int .i64 3,.int .i64 v,.int .i64 r,.string h,.slice ao l.length cp],e.agg,.int .i64 c] w fun x w'=>PosQ w w' x a v r h hi e c l ks:=by
  have HX:=hide (ins_new w (.int .i64 a) (.int .i64 3) (.int .i64 v) (.int .i64 r) (.string h) (.slice ao l.length cp) e)
  have HR:=hide ((hP.more HX.out.2.2.2).read a cp)
  have HIE:Hid (∀ W,Calls Tryz.prog 60 #[.agg #[.string e.key,.int .i64 e.page,.int .i64 e.slot]] W fun x w'=>x=.returned (.bool e.ok)∧Only (fun _=>False) W w'):=fun W=>isEntry_any e W
  have HBY:Hid (∀ W (A1 A2:Option Addr) (n1 n2 C1 C2:Nat),Calls Tryz.prog 86 #[.agg #[.slice A1 n1 C1,.slice A2 n2 C2,.string hi.key,.int .i64 hi.page,.int .i64 hi.slot],.agg #[.string e.key,.int .i64 e.page,.int .i64 e.slot]] W fun x w'=>x=.returned (.bool (blw hi e))∧Only (fun _=>False) W w'):=fun W A1 A2 n1 n2 C1 C2=>isBelow_any W A1 A2 n1 n2 C1 C2 hi e
  have HPL:Hid (∀ (W:World) (A1 A2:Option Addr) (n1 n2 C1 C2:Nat) (base:Nat),Ets W base (.slice A1 n1 C1) (ks.map Prod.fst)→Calls Tryz.prog 84 #[.agg #[.slice A1 n1 C1,.slice A2 n2 C2,.string hi.key,.int .i64 hi.page,.int .i64 hi.slot],.agg #[.string e.key,.int .i64 e.page,.int .i64 e.slot]] W fun x w'=>x=.returned (.tuple #[.int .i64 (plE (ks.map Prod.fst) e:Int),.bool (decide (e ∈ ks.map Prod.fst))])∧Only (fun _=>False) W w'):=fun W A1 A2 n1 n2 C1 C2 base hE=>by
    obtain ⟨B1,hels,hln⟩:=hE.elsOf
    exact place_any W B1 n1 C1 A1 A2 n2 C2 hi (ks.map Prod.fst) e hels hln (by have:=hP.len; rw [← hln,List.length_map]; omega) hP.inn.rise
  have HIC:Hid (∀ W,Calls Tryz.prog 81 #[.int .i64 c] W fun x w'=>x=.returned (.bool (okC c))∧w'=W):=fun W=>isChild_any c W
  have HLD:Hid (e.ok=true→okC c=true→∀ (W W':World),Only (fun _=>False) (W.alloc (.cells #[.int .i64 c] 3)) W'→Calls Tryz.prog 65 #[.agg #[.string e.key,.int .i64 e.page,.int .i64 e.slot],.slice (some ⟨W.heap.size,0,none⟩) 1 1] W' fun x w'=>x=.returned (.string (e.encS c))∧Only (fun _=>False) W' w'):=fun he hc W W' ho=>laid_two e W W' c (En.few_ok he) (by have:=(okC_iff.1 hc).2; omega) ho
  have HPT:Hid (e.ok=true→∀ W,Only (fun _=>False) w W→Calls Tryz.prog 85 #[.agg #[.int .i64 a,.int .i64 3,.int .i64 v,.int .i64 r,.string h,.slice ao l.length cp],.int .i64 (plE (ks.map Prod.fst) e:Int),.string (e.encS c)] W fun x w'=>∃ p k,Res W w' x p k∧(((255 < (posI l ks e c).length∨512 < 20+h.size+isz (posI l ks e c))∧p=.none∧k=3)∨(¬ (255 < (posI l ks e c).length∨512 < 20+h.size+isz (posI l ks e c))∧p=⟨a,3,v,r,h,posI l ks e c⟩∧k=0))):=fun he W ho=>
    (put_any W a 3 v r h B cp ao l (plE (ks.map Prod.fst) e) (e.encS c) (hP.strs.more ho) hF (by have:=hP.high.size; omega) (by have:=encS_size c he; omega) (by have:=plE_le (ks.map Prod.fst) e; have:=hP.inn.len; rw [List.length_map] at *; omega) (by have:=hP.few; omega)).mono (fun x w' hq=>hq.any)
  clear hP hF
  obtain ⟨K,hK⟩:∃ K:Int,(plE (ks.map Prod.fst) e:Int)=K:=⟨_,rfl⟩
  obtain ⟨O,hO⟩:=exq (e.ok)
  obtain ⟨Y,hY⟩:=exq (blw hi e)
  obtain ⟨D,hD⟩:=exq (decide (e ∈ ks.map Prod.fst))
  obtain ⟨E,hE⟩:=exq (e.encS c)
  obtain ⟨T,hT⟩:=exq (okC c)
  rw [hK,hD] at HPL
  rw [hO] at HIE HLD HPT
  rw [hY] at HBY
  rw [hE,hT] at HLD
  rw [hT] at HIC
  rw [hK,hE] at HPT
  have HOY:=hide (And.intro hO (And.intro hY (And.intro hD hT)))
  clear hK hO hY hD hE hT
  unfold En.agg
  go_enter Tryz.func40,Tryz.ntmps40
  go_upto_region 1 with fail
  obtain ⟨W0,hW0⟩:=exq (((w.alloc (.cells #[.int .i64 a,.int .i64 3,.int .i64 v,.int .i64 r,.string h,.slice ao l.length cp] 24)).alloc (.cells #[.string e.key,.int .i64 e.page,.int .i64 e.slot] 41)).alloc (.cells #[.int .i64 0,.int .i64 0,.int .i64 0,.int .i64 0,.string ⟨#[]⟩,.slice none 0 0] 24))
  rw [hW0] at HX HR ⊢
  clear hW0
  obtain ⟨p0,p1,p2,p3,p4,p5,_⟩:=HX.out.1
  go_wp2_with fail
  refine HR.out.mono ?_
  rintro x w1 ⟨A,C,A2,C2,rfl,he,hk,ho⟩
  unfold cvv
  have HP1:=hide (HX.out.1.more ho)
  have HV1:=hide (HX.out.2.1.more ho)
  have HQ1:=hide (HX.out.2.2.1.more ho)
  have HO1:=hide (o2 HX.out.2.2.2 ho)
  have HE1:=hide he
  clear he hk ho p0 p1 p2 p3 p4 p5 HR HX
  go_upto_region 2 with fail
  have HA:=hide (onlyA w1 (.cells #[.slice A ks.length C,.slice A2 ks.length C2,.string hi.key,.int .i64 hi.page,.int .i64 hi.slot] 85))
  have HC:=hide (Cv.new w1 (.slice A ks.length C) (.slice A2 ks.length C2) hi)
  obtain ⟨cb,hcb⟩:=exq (w1.heap.size)
  rw [hcb] at HC ⊢
  clear hcb
  obtain ⟨w2,hw2⟩:=exq (w1.alloc (.cells #[.slice A ks.length C,.slice A2 ks.length C2,.string hi.key,.int .i64 hi.page,.int .i64 hi.slot] 85))
  rw [hw2] at HA HC ⊢
  clear hw2
  have HP2:=hide (HP1.out.more HA.out)
  have HV2:=hide (HV1.out.more HA.out)
  have HQ2:=hide (HQ1.out.more HA.out)
  have HO2:=hide (o2 HO1.out HA.out)
  have HE2:=hide (HE1.out.more HA.out)
  clear HA HP1 HV1 HQ1 HO1 HE1
  obtain ⟨d0,d1,d2,_⟩:=HV2.out
  go_wp2_with fail
  refine (HIE.out _).mono ?_
  rintro x w3 ⟨rfl,ho⟩
  have HP3:=hide (HP2.out.more ho)
  have HV3:=hide (HV2.out.more ho)
  have HQ3:=hide (HQ2.out.more ho)
  have HC3:=hide (HC.out.more ho)
  have HO3:=hide (o2 HO2.out ho)
  have HE3:=hide (HE2.out.more ho)
  clear ho d0 d1 d2 HP2 HV2 HQ2 HC HO2 HE2
  cases O with
  | false=>
    clear HLD HPT HPL
    obtain ⟨q0,q1,q2,q3,q4,q5,g0,g1,g2,g3,g4,g5,ql⟩:=HQ3.out
    go_wp2_with fail
    refine bodyPost_ret (results_page rfl rfl (Pag.six HQ3.out _ _ _ _ _ _)) rfl ?_
    exact ⟨fun _=>resErr _ HO3.out (by omega),fun h1=>by rw [HOY.out.1] at h1; cases h1⟩
  | true=>
    have HLD0:=hide (HLD.out rfl)
    have HPT0:=hide (HPT.out rfl)
    clear HLD HPT
    obtain ⟨d0,d1,d2,_⟩:=HV3.out
    obtain ⟨q0,q1,q2,q3,q4,_⟩:=HC3.out
    go_wp2_with fail
    refine (HBY.out _ _ _ _ _ _ _).mono ?_
    rintro x w4 ⟨rfl,ho⟩
    have HP4:=hide (HP3.out.more ho)
    have HV4:=hide (HV3.out.more ho)
    have HQ4:=hide (HQ3.out.more ho)
    have HC4:=hide (HC3.out.more ho)
    have HO4:=hide (o2 HO3.out ho)
    have HE4:=hide (HE3.out.more ho)
    clear ho d0 d1 d2 q0 q1 q2 q3 q4 HP3 HV3 HQ3 HC3 HO3 HE3
    cases Y with
    | false=>
      clear HPL HLD0 HPT0
      obtain ⟨q0,q1,q2,q3,q4,q5,g0,g1,g2,g3,g4,g5,ql⟩:=HQ4.out
      go_wp2_with fail
      refine bodyPost_ret (results_page rfl rfl (Pag.six HQ4.out _ _ _ _ _ _)) rfl ?_
      exact ⟨fun _=>resErr _ HO4.out (by omega),fun _ h1=>by rw [HOY.out.2.1] at h1; cases h1⟩
    | true=>
      go_wp2_with fail
      refine (HIC.out _).mono ?_
      rintro x w4b ⟨rfl,h4⟩
      obtain rfl:=h4.symm
      cases T with
      | false=>
        clear HPL HLD0 HPT0
        obtain ⟨q0,q1,q2,q3,q4,q5,g0,g1,g2,g3,g4,g5,ql⟩:=HQ4.out
        go_wp2_with fail
        refine bodyPost_ret (results_page rfl rfl (Pag.six HQ4.out _ _ _ _ _ _)) rfl ?_
        exact ⟨fun _=>resErr _ HO4.out (by omega),fun _ _ h1=>by rw [HOY.out.2.2.2] at h1; cases h1⟩
      | true=>
        have HLD1:=hide (HLD0.out rfl)
        clear HLD0
        obtain ⟨d0,d1,d2,_⟩:=HV4.out
        obtain ⟨q0,q1,q2,q3,q4,_⟩:=HC4.out
        have HPL1:=hide (HPL.out w4 A A2 ks.length ks.length C C2 _ HE4.out)
        clear HPL
        go_wp2_with fail
        refine HPL1.out.mono ?_
        rintro x w5 ⟨rfl,ho⟩
        have HP5:=hide (HP4.out.more ho)
        have HV5:=hide (HV4.out.more ho)
        have HQ5:=hide (HQ4.out.more ho)
        have HO5:=hide (o2 HO4.out ho)
        clear ho d0 d1 d2 q0 q1 q2 q3 q4 HP4 HV4 HQ4 HC4 HO4 HE4 HPL1
        cases D with
        | true=>
          clear HLD1 HPT0
          obtain ⟨q0,q1,q2,q3,q4,q5,g0,g1,g2,g3,g4,g5,ql⟩:=HQ5.out
          go_wp2_with fail
          refine bodyPost_ret (results_page rfl rfl (Pag.six HQ5.out _ _ _ _ _ _)) rfl ?_
          exact ⟨fun _=>resErr _ HO5.out (by omega),fun _ _ _ h1=>absurd (of_decide_eq_true HOY.out.2.2.1) h1⟩
        | false=>
          go_upto_region 7 with fail
          -- {r7
          refine wp_region_noPanic ?_
          refine wp_region_held_drew (S:=fun W=>Only (fun k=>k=w.heap.size+1+1) w5 W) (by kernel_rfl) (Only.drew _ _) (fun hHeld=>?_)
          refine tkQ 0 (.agg #[.int .i64 a,.int .i64 3,.int .i64 v,.int .i64 r,.string h,.slice ao l.length cp]) rfl (yieldsIf_load_page (by rfl) _ rfl _ rfl (fun W hW=>HP5.out.kept hW (by omega))) ?_
          refine tkP 1 (.int .i64 K) rfl ?_
          refine tkQ 2 (.agg #[.string e.key,.int .i64 e.page,.int .i64 e.slot]) rfl (yieldsIf_load_ev (by rfl) _ rfl rfl (fun W hW=>HV5.out.kept hW (by omega))) ?_
          refine tkP 3 (.int .i64 c) rfl ?_
          refine rd1 4 rfl (fun K hK=>?_)
          go_simp
          refine hK.out _ _ ((o2 (onlyA _ _) (Only.drew _ _)).mono (fun _ _ h=>h.elim)) (fun hHeld=>?_)
          clear hK K
          try simp only [Act.put,lsA,lsB,lsC]
          refine rd1 5 rfl (fun K hK=>?_)
          go_simp
          refine (HLD1.out w5 _ (Only.drew _ _)).mono ?_
          rintro x x1 ⟨rfl,hx1⟩
          have HX1:=hide (o2 (o2 (onlyA w5 _) (Only.drew _ _)) hx1)
          clear hx1
          refine hK.out _ _ (HX1.out.mono (fun _ _ h=>h.elim)) (fun hHeld=>?_)
          clear hK K
          try simp only [Act.put,lsA,lsB,lsC]
          refine rd1 6 rfl (fun K hK=>?_)
          go_simp
          refine (HPT0.out _ (o2 HO5.out HX1.out)).mono ?_
          rintro x x2 ⟨p,k,⟨B5,ao5,cp5,rfl,hS5,hF5,ho5,hB5⟩,hpk⟩
          have HX2:=hide ho5
          have HS7:=hide (And.intro hS5 (And.intro hF5 hB5))
          have HPK:=hide hpk
          have HQ7:=hide (HQ5.out.more (o2 HX1.out HX2.out))
          have HZ7:Hid (w.heap.size+1+1 < x1.heap.size):=(HQ5.out.more HX1.out).lt
          obtain ⟨q0,q1,q2,q3,q4,q5,g0,g1,g2,g3,g4,g5,ql⟩:=HQ7.out
          clear hS5 hF5 ho5 hB5 hpk
          refine hK.out _ _ ((o2 HX1.out HX2.out).mono (fun _ _ h=>h.elim)) (fun hHeld=>?_)
          clear hK K
          try simp only [Act.put,lsA,lsB,lsC]
          refine tkP 7 (.agg #[.int .i64 p.lsn,.int .i64 p.kind,.int .i64 p.level,.int .i64 p.right,.string p.high,.slice ao5 p.items.length cp5]) rfl ?_
          refine tkP 8 (.int .i64 k) rfl ?_
          refine rd1 9 rfl (fun K hK=>?_)
          go_simp
          refine hK.out _ _ (((o2 HX1.out HX2.out).mono (fun _ _ h=>h.elim)).trans (Only.six x2 (w.heap.size+1+1) _ _ _ _ _ _) (fun _ _ h=>h)) (fun hHeld=>?_)
          clear hK K
          try simp only [Act.put,lsA,lsB,lsC]
          refine tkP 10 (.int .i64 k) rfl ?_
          refine dnN ?_
          -- r7}
          go_wp2_with fail
          refine bodyPost_ret (results_page rfl rfl (Pag.six HQ7.out _ _ _ _ _ _)) rfl ?_
          have hres:=resSix (k:=k) HS7.out.1 HS7.out.2.1 HX2.out HS7.out.2.2 (o2 HO5.out HX1.out) (w.heap.size+1+1) (by omega) HZ7.out (.int .i64 p.lsn) (.int .i64 p.kind) (.int .i64 p.level) (.int .i64 p.right) (.string p.high) (.slice ao5 p.items.length cp5)
          refine ⟨fun h1=>?_,fun _ _ _ _=>?_⟩
          · exfalso
            rcases h1 with h1 | h1 | h1 | h1
            · rw [HOY.out.1] at h1; cases h1
            · rw [HOY.out.2.1] at h1; cases h1
            · rw [HOY.out.2.2.2] at h1; cases h1
            · exact of_decide_eq_false HOY.out.2.2.1 h1
          · rcases HPK.out with ⟨hc,e1,e2⟩ | ⟨hc,e1,e2⟩
            · subst e1 e2
              exact Or3.yes hc hres
            · subst e1 e2
              exact Or3.no hc hres
theorem En.lt_le {a b c:En} (h:a.lt b) (k:¬ c.lt b):a.lt c:=by
  by_cases e:b=c
  · rw [← e]; exact h
  · rcases En.lt_total e with l | l
    · exact En.lt_trans h l
    · exact absurd l k
theorem byd_yes {h e:En}:byd h e=true ↔ (h≠noE∧h.lt e):=by unfold byd; simp
theorem blw_yes {h e:En}:blw h e=true ↔ (h=noE∨e.lt h):=by unfold blw; simp
structure Nd where
  lv:Nat
  rt:Nat
  hi:En
  ks:List (En × Int)
instance:Inhabited Nd:=⟨⟨0,0,noE,[]⟩⟩
def Nd.es (x:Nd):List En:=x.ks.map Prod.fst
def itB (v:Nat) (k:En × Int):ByteArray:=if v=0 then k.1.enc else k.1.encS k.2
def Nd.items (x:Nd):List ByteArray:=x.ks.map (itB x.lv)
def hiB (h:En):ByteArray:=if h=noE then ⟨#[]⟩ else h.enc
def Nd.size (x:Nd):Nat:=20+(hiB x.hi).size+isz x.items
theorem Nd.es_len (x:Nd):x.es.length=x.ks.length:=by unfold Nd.es; simp
theorem Nd.items_len (x:Nd):x.items.length=x.ks.length:=by unfold Nd.items; simp
structure Nd.Ok (x:Nd) (lo:En):Prop where
  rise:Rise x.es
  hiok:x.hi=noE∨(x.hi.ok=true∧lo.lt x.hi)
  leaf:x.lv=0→∀ k ∈ x.ks,k.1.ok=true∧k.2=0∧lo.lt k.1∧byd x.hi k.1=false
  first:0 < x.lv→∃ c r,x.ks=(noE,c) :: r
  inner:0 < x.lv→∀ k ∈ x.ks.tail,k.1.ok=true∧lo.lt k.1∧blw x.hi k.1=true
  size:x.size≤512
def pg (N i:Nat):Prop:=1≤i∧i < N
def chK (ks:List (En × Int)) (e:En):Int:=(ks.getD (plE (ks.map Prod.fst) e - 1) (noE,0)).2
theorem plE_cons_pos {x e:En} {es:List En} (h:x.lt e):plE (x :: es) e=plE es e+1:=by
  unfold plE
  rw [List.countP_cons_of_pos (by simpa using h)]
section Way
variable {N:Nat} {F:Nat→Nd} {lo:Nat→En} {A:En→Prop} {i:Nat} {e:En}
end Way
def insK (ks:List (En × Int)) (e:En) (c:Int):List (En × Int):=ks.take (plE (ks.map Prod.fst) e)++(e,c) :: ks.drop (plE (ks.map Prod.fst) e)
theorem insK_fst (ks:List (En × Int)) (e:En) (c:Int):(insK ks e c).map Prod.fst=insE (ks.map Prod.fst) e:=by unfold insK insE; simp
theorem insK_len (ks:List (En × Int)) (e:En) (c:Int):(insK ks e c).length=ks.length+1:=by
  have h:=congrArg List.length (List.take_append_drop (plE (ks.map Prod.fst) e) ks)
  unfold insK
  simp only [List.length_append,List.length_cons] at h ⊢
  omega
theorem insK_mem {ks:List (En × Int)} {e:En} {c:Int} {k:En × Int}:k ∈ insK ks e c ↔ k=(e,c)∨k ∈ ks:=by
  unfold insK
  rw [List.mem_append,List.mem_cons]
  have:k ∈ ks ↔ k ∈ ks.take (plE (ks.map Prod.fst) e)∨k ∈ ks.drop (plE (ks.map Prod.fst) e):=by rw [← List.mem_append,List.take_append_drop]
  rw [this]
  constructor
  · rintro (h | h | h)
    · exact .inr (.inl h)
    · exact .inl h
    · exact .inr (.inr h)
  · rintro (h | h | h)
    · exact .inr (.inl h)
    · exact .inl h
    · exact .inr (.inr h)
theorem insK_cons {x:En} {d:Int} {r:List (En × Int)} {e:En} {c:Int} (h:x.lt e):insK ((x,d) :: r) e c=(x,d) :: insK r e c:=by
  unfold insK
  rw [List.map_cons,plE_cons_pos h]
  rfl
def Nd.ins (x:Nd) (e:En) (c:Int):Nd:={ x with ks:=insK x.ks e c }
theorem isz_mid (l:List ByteArray) (i:Nat) (s:ByteArray):isz (l.take i++s :: l.drop i)=isz l+(2+s.size):=by
  have h:=congrArg isz (List.take_append_drop i l)
  rw [isz_app] at h
  rw [isz_app,isz_cons]
  omega
theorem Nd.ins_items (x:Nd) (e:En) (c:Int):(x.ins e c).items=x.items.take (plE x.es e)++itB x.lv (e,c) :: x.items.drop (plE x.es e):=by
  unfold Nd.ins Nd.items insK Nd.es
  simp
theorem Nd.ins_size (x:Nd) (e:En) (c:Int):(x.ins e c).size=x.size+(2+(itB x.lv (e,c)).size):=by
  unfold Nd.size
  rw [Nd.ins_items,isz_mid]
  show 20+(hiB x.hi).size+_=_
  omega
theorem Nd.ins_es (x:Nd) (e:En) (c:Int):(x.ins e c).es=insE x.es e:=insK_fst _ _ _
theorem Nd.Ok.ins {x:Nd} {lo e:En} {c:Int} (h:x.Ok lo) (he:e.ok=true) (hl:lo.lt e) (hn:e ∉ x.es) (h0:x.lv=0→byd x.hi e=false∧c=0) (h1:0 < x.lv→blw x.hi e=true) (hs:(x.ins e c).size≤512):(x.ins e c).Ok lo:=by
  refine ⟨?_,h.hiok,?_,?_,?_,hs⟩
  · rw [Nd.ins_es]; exact insE_rise h.rise hn
  · intro hv k hk
    rcases insK_mem.1 hk with rfl | hk
    · exact ⟨he,(h0 hv).2,hl,(h0 hv).1⟩
    · exact h.leaf hv k hk
  · intro hv
    obtain ⟨d,r,hr⟩:=h.first hv
    refine ⟨d,insK r e c,?_⟩
    show insK x.ks e c=_
    rw [hr,insK_cons (noE_lt he)]
  · intro hv k hk
    obtain ⟨d,r,hr⟩:=h.first hv
    have ht:(x.ins e c).ks.tail=insK r e c:=by
      show (insK x.ks e c).tail=_
      rw [hr,insK_cons (noE_lt he)]
      rfl
    rw [ht] at hk
    rcases insK_mem.1 hk with rfl | hk
    · exact ⟨he,hl,h1 hv⟩
    · exact h.inner hv k (by rw [hr]; exact hk)
theorem sev_small {n:Nat} (h:n≤65535):1≤(sev n).length∧(sev n).length≤3:=by
  unfold sev
  by_cases a:n < 128
  · rw [sevF_end a]; simp
  · rw [sevF_more a]
    by_cases b:n / 128 < 128
    · rw [sevF_end b]; simp
    · rw [sevF_more b,sevF_end (by omega)]; simp
theorem enc_bounds {e:En} (h:e.ok=true):4≤e.enc.size∧e.enc.size≤31:=by
  have h':=En.ok_iff.1 h
  have hb:e.enc.size=e.lay.length:=by rw [← bl_len e.enc,bl_enc]
  have t:=txL_len e.key (by omega)
  have a:=sev_small (n:=e.page.toNat) (by omega)
  have b:=sev_small (n:=e.slot.toNat) (by omega)
  rw [hb]
  unfold En.lay
  simp only [List.length_append]
  omega
theorem encS_bounds {e:En} {c:Int} (h:e.ok=true) (hc:okC c=true):5≤(e.encS c).size∧(e.encS c).size≤34:=by
  have hb:(e.encS c).size=e.lay.length+(sev c.toNat).length:=by rw [← bl_len (e.encS c),bl_encS]; unfold En.layS; simp
  have hb2:e.enc.size=e.lay.length:=by rw [← bl_len e.enc,bl_enc]
  have h1:=enc_bounds h
  have h2:=okC_iff.1 hc
  have a:=sev_small (n:=c.toNat) (by omega)
  omega
theorem noE_encS_size' (c:Int):(noE.encS c).size=3+(sev c.toNat).length:=by
  rw [← bl_len (noE.encS c),bl_encS]
  unfold En.layS
  rw [List.length_append,show noE.lay.length=3 by decide]
theorem encS_noE_bounds {c:Int} (hc:okC c=true):4≤(noE.encS c).size∧(noE.encS c).size≤6:=by
  have h2:=okC_iff.1 hc
  have a:=sev_small (n:=c.toNat) (by omega)
  rw [noE_encS_size']
  omega
theorem encS_noE_le {e:En} {c:Int} (h:e.ok=true):(noE.encS c).size≤(e.encS c).size:=by
  have hb:(e.encS c).size=e.lay.length+(sev c.toNat).length:=by rw [← bl_len (e.encS c),bl_encS]; unfold En.layS; simp
  have hb2:e.enc.size=e.lay.length:=by rw [← bl_len e.enc,bl_enc]
  have h1:=enc_bounds h
  rw [noE_encS_size']
  omega
theorem hiB_size {h:En} (x:h=noE∨h.ok=true):(hiB h).size≤31:=by
  unfold hiB
  by_cases k:h=noE
  · rw [if_pos k]; decide
  · rw [if_neg k]
    rcases x with x | x
    · exact absurd x k
    · exact (enc_bounds x).2
theorem isz_up {l:List ByteArray} {m:Nat} (h:∀ s ∈ l,s.size≤m):isz l≤(m+2) * l.length:=by
  induction l with
  | nil=>simp [isz_nil]
  | cons s l ih=>
    have a:=h s (List.mem_cons_self ..)
    have b:=ih (fun x hx=>h x (List.mem_cons_of_mem _ hx))
    rw [isz_cons,List.length_cons,Nat.mul_succ]
    omega
theorem isz_down {l:List ByteArray} {m:Nat} (h:∀ s ∈ l,m≤s.size):(m+2) * l.length≤isz l:=by
  induction l with
  | nil=>simp
  | cons s l ih=>
    have a:=h s (List.mem_cons_self ..)
    have b:=ih (fun x hx=>h x (List.mem_cons_of_mem _ hx))
    rw [isz_cons,List.length_cons,Nat.mul_succ]
    omega
def Nd.Kok (x:Nd):Prop:=0 < x.lv→∀ k ∈ x.ks,okC k.2=true
section Sizes
variable {x:Nd} {lo:En}
theorem Nd.Ok.leaf_up (h:x.Ok lo) (hv:x.lv=0) {l:List (En × Int)} (hl:∀ k ∈ l,k ∈ x.ks):6 * l.length≤isz (l.map (itB x.lv))∧isz (l.map (itB x.lv))≤33 * l.length:=by
  have a:∀ s ∈ l.map (itB x.lv),4≤s.size∧s.size≤31:=by
    intro s hs
    obtain ⟨k,hk,rfl⟩:=List.mem_map.1 hs
    unfold itB
    rw [if_pos hv]
    exact enc_bounds (h.leaf hv k (hl k hk)).1
  have b:=isz_up (fun s hs=>(a s hs).2)
  have c:=isz_down (fun s hs=>(a s hs).1)
  rw [List.length_map] at b c
  exact ⟨c,b⟩
theorem Nd.Ok.inner_up (h:x.Ok lo) (hk:x.Kok) (hv:0 < x.lv) {l:List (En × Int)} (hl:∀ k ∈ l,k ∈ x.ks.tail):7 * l.length≤isz (l.map (itB x.lv))∧isz (l.map (itB x.lv))≤36 * l.length:=by
  have a:∀ s ∈ l.map (itB x.lv),5≤s.size∧s.size≤34:=by
    intro s hs
    obtain ⟨k,hkk,rfl⟩:=List.mem_map.1 hs
    unfold itB
    rw [if_neg (by omega)]
    exact encS_bounds (h.inner hv k (hl k hkk)).1 (hk hv k (List.mem_of_mem_tail (hl k hkk)))
  have b:=isz_up (fun s hs=>(a s hs).2)
  have c:=isz_down (fun s hs=>(a s hs).1)
  rw [List.length_map] at b c
  exact ⟨c,b⟩
theorem Nd.Ok.few (h:x.Ok lo) (hk:x.Kok):x.ks.length≤82:=by
  have hs:=h.size
  unfold Nd.size Nd.items at hs
  rcases Nat.eq_zero_or_pos x.lv with v | v
  · have a:=(h.leaf_up v (fun k hk=>hk)).1
    omega
  · obtain ⟨c,r,hr⟩:=h.first v
    have a:=(h.inner_up hk v (l:=r) (fun k hk=>by rw [hr]; exact hk)).1
    have b:=encS_noE_bounds (c:=c) (hk v (noE,c) (by rw [hr]; exact List.mem_cons_self ..))
    rw [hr,List.map_cons,isz_cons] at hs
    have d:itB x.lv (noE,c)=noE.encS c:=by unfold itB; rw [if_neg (by omega)]
    rw [d] at hs
    rw [hr,List.length_cons]
    omega
theorem item_up {v:Nat} {e:En} {c:Int} (he:e.ok=true) (hc:0 < v→okC c=true):2+(itB v (e,c)).size≤36∧(v=0→2+(itB v (e,c)).size≤33):=by
  unfold itB
  by_cases hv:v=0
  · rw [if_pos hv]
    have h:=enc_bounds he
    show 2+e.enc.size≤36∧(v=0→2+e.enc.size≤33)
    exact ⟨by omega,fun _=>by omega⟩
  · rw [if_neg hv]
    have h:=encS_bounds he (hc (by omega))
    show 2+(e.encS c).size≤36∧(v=0→2+(e.encS c).size≤33)
    exact ⟨by omega,fun z=>absurd z hv⟩
theorem Nd.Ok.full (h:x.Ok lo) (hk:x.Kok) {e:En} {c:Int} (he:e.ok=true) (hc:0 < x.lv→okC c=true) (hf:512 < x.size+(2+(itB x.lv (e,c)).size)):13≤x.ks.length∧(x.hi=noE→14≤x.ks.length):=by
  obtain ⟨hu1,hu2⟩:=item_up (v:=x.lv) he hc
  obtain ⟨T,hT⟩:=exq ((itB x.lv (e,c)).size)
  rw [hT] at hu1 hu2 hf
  have hh:(hiB x.hi).size≤31:=hiB_size (by rcases h.hiok with y | y; exact .inl y; exact .inr y.1)
  have hz:x.hi=noE→(hiB x.hi).size=0:=fun y=>by rw [y]; decide
  unfold Nd.size Nd.items at hf
  rcases Nat.eq_zero_or_pos x.lv with v | v
  · have a:=(h.leaf_up v (fun k hk=>hk)).2
    have b:=hu2 v
    exact ⟨by omega,fun y=>by have:=hz y; omega⟩
  · obtain ⟨d,r,hr⟩:=h.first v
    have a:=(h.inner_up hk v (l:=r) (fun k hk=>by rw [hr]; exact hk)).2
    have b:=encS_noE_bounds (c:=d) (hk v (noE,d) (by rw [hr]; exact List.mem_cons_self ..))
    rw [hr,List.map_cons,isz_cons] at hf
    have q:itB x.lv (noE,d)=noE.encS d:=by unfold itB; rw [if_neg (by omega)]
    rw [q] at hf
    rw [hr,List.length_cons]
    exact ⟨by omega,fun y=>by have:=hz y; omega⟩
end Sizes
def Nd.half (x:Nd):Nat:=(x.ks.length+1) / 2
def Nd.bord (x:Nd):En:=if x.lv=0 then (x.ks.getD (x.half - 1) (noE,0)).1 else (x.ks.getD x.half (noE,0)).1
def Nd.left (x:Nd) (j:Nat):Nd:=⟨x.lv,j,x.bord,x.ks.take x.half⟩
def Nd.rest (x:Nd):List (En × Int):=if x.lv=0 then x.ks.drop x.half else (noE,(x.ks.getD x.half (noE,0)).2) :: x.ks.drop (x.half+1)
def Nd.right (x:Nd):Nd:=⟨x.lv,x.rt,x.hi,x.rest⟩
section Halves
variable {x:Nd} {lo:En}
theorem Nd.half_lt (hn:2≤x.ks.length):1≤x.half∧x.half < x.ks.length:=by unfold Nd.half; omega
theorem rise_at {es:List En} (h:Rise es) {i j:Nat} (hj:j < es.length) (hij:i < j):(es[i]'(by omega)).lt es[j]:=List.pairwise_iff_getElem.1 h i j (by omega) hj hij
theorem Nd.rise_ks (h:Rise x.es) {i j:Nat} (hj:j < x.ks.length) (hij:i < j):(x.ks[i]'(by omega)).1.lt x.ks[j].1:=by
  have:=rise_at h (i:=i) (j:=j) (by rw [Nd.es_len]; exact hj) hij
  unfold Nd.es at this
  simpa using this
theorem Nd.bord_leaf (hv:x.lv=0) (hn:2≤x.ks.length):∃ h:x.half - 1 < x.ks.length,x.bord=(x.ks[x.half - 1]).1:=by
  have:=Nd.half_lt hn
  refine ⟨by omega,?_⟩
  unfold Nd.bord
  rw [if_pos hv,List.getD_eq_getElem?_getD,List.getElem?_eq_getElem (by omega),Option.getD_some]
theorem Nd.bord_inner (hv:0 < x.lv) (hn:2≤x.ks.length):∃ h:x.half < x.ks.length,x.bord=(x.ks[x.half]).1:=by
  have:=Nd.half_lt hn
  refine ⟨by omega,?_⟩
  unfold Nd.bord
  rw [if_neg (by omega),List.getD_eq_getElem?_getD,List.getElem?_eq_getElem (by omega),Option.getD_some]
theorem Nd.mem_tail {i:Nat} (h1:1≤i) (h:i < x.ks.length):x.ks[i] ∈ x.ks.tail:=by
  rw [List.mem_iff_getElem]
  refine ⟨i - 1,by simp; omega,?_⟩
  rw [List.getElem_tail]
  congr 1
  omega
theorem Nd.Ok.bord (h:x.Ok lo) (hn:2≤x.ks.length):x.bord.ok=true∧lo.lt x.bord∧(x.hi=noE∨x.bord.lt x.hi):=by
  have hh:=Nd.half_lt hn
  rcases Nat.eq_zero_or_pos x.lv with v | v
  · obtain ⟨h1,hb⟩:=Nd.bord_leaf v hn
    obtain ⟨a,_,b,c⟩:=h.leaf v _ (List.getElem_mem h1)
    obtain ⟨_,_,_,c2⟩:=h.leaf v _ (List.getElem_mem hh.2)
    have d:=Nd.rise_ks h.rise hh.2 (i:=x.half - 1) (by omega)
    rw [hb]
    refine ⟨a,b,?_⟩
    rcases byd_no.1 c2 with k | k
    · exact .inl k
    · exact .inr (En.lt_le d k)
  · obtain ⟨h1,hb⟩:=Nd.bord_inner v hn
    obtain ⟨a,b,c⟩:=h.inner v _ (Nd.mem_tail hh.1 h1)
    rw [hb]
    exact ⟨a,b,blw_yes.1 c⟩
theorem Nd.left_mem {k:En × Int} (h:k ∈ x.ks.take x.half):k ∈ x.ks:=List.mem_of_mem_take h
theorem Nd.half_sum (x:Nd):isz ((x.ks.take x.half).map (itB x.lv))+isz ((x.ks.drop x.half).map (itB x.lv))=isz x.items:=by
  rw [← isz_app,← List.map_append,List.take_append_drop]
  rfl
theorem Nd.Ok.left_size (h:x.Ok lo) (hk:x.Kok) (hn:2≤x.ks.length) (j:Nat):(x.left j).size+(if x.lv=0 then 33 else 36)≤512:=by
  have hh:=Nd.half_lt hn
  have hb:=(enc_bounds (h.bord hn).1).2
  have hB:(hiB x.bord).size≤31:=hiB_size (.inr (h.bord hn).1)
  have hs:=h.size
  have sm:=Nd.half_sum x
  unfold Nd.size at hs ⊢
  show 20+(hiB x.bord).size+isz ((x.ks.take x.half).map (itB x.lv))+_≤512
  have lt:(x.ks.take x.half).length=x.half:=by rw [List.length_take]; omega
  have ld:(x.ks.drop x.half).length=x.ks.length - x.half:=List.length_drop
  have hf:x.half≤x.ks.length - x.half+1:=by unfold Nd.half; omega
  rcases Nat.eq_zero_or_pos x.lv with v | v
  · rw [if_pos v]
    have a:=(h.leaf_up v (l:=x.ks.take x.half) (fun k=>Nd.left_mem)).2
    have b:=(h.leaf_up v (l:=x.ks.drop x.half) (fun k=>List.mem_of_mem_drop)).1
    rw [lt] at a
    rw [ld] at b
    omega
  · rw [if_neg (by omega)]
    obtain ⟨c,r,hr⟩:=h.first v
    have q:itB x.lv (noE,c)=noE.encS c:=by unfold itB; rw [if_neg (by omega)]
    have e0:=encS_noE_bounds (c:=c) (hk v (noE,c) (by rw [hr]; exact List.mem_cons_self ..))
    have tk:x.ks.take x.half=(noE,c) :: r.take (x.half - 1):=by
      rw [hr]
      obtain ⟨m,hm⟩:∃ m,x.half=m+1:=⟨x.half - 1,by omega⟩
      rw [hm]; rfl
    have a:=(h.inner_up hk v (l:=r.take (x.half - 1)) (fun k hk=>by rw [hr]; exact List.mem_of_mem_take hk)).2
    have b:=(h.inner_up hk v (l:=x.ks.drop x.half) (fun k hkk=>by
      obtain ⟨i,hi,rfl⟩:=List.mem_drop_iff_getElem.1 hkk
      exact Nd.mem_tail (by omega) (by omega))).1
    rw [ld] at b
    have lr:(r.take (x.half - 1)).length≤x.half - 1:=by rw [List.length_take]; omega
    rw [tk,List.map_cons,isz_cons,q] at sm ⊢
    omega
theorem Nd.Ok.right_size (h:x.Ok lo) (hk:x.Kok) (hn:2≤x.ks.length):x.right.size≤512∧(12≤x.ks.length→x.right.size+36≤512):=by
  have hh:=Nd.half_lt hn
  have hs:=h.size
  have sm:=Nd.half_sum x
  unfold Nd.size at hs ⊢
  show 20+(hiB x.hi).size+isz (x.rest.map (itB x.lv))≤512∧(12≤x.ks.length→20+(hiB x.hi).size+isz (x.rest.map (itB x.lv))+36≤512)
  have lt:(x.ks.take x.half).length=x.half:=by rw [List.length_take]; omega
  have hf:12≤x.ks.length→6≤x.half:=fun y=>by unfold Nd.half; omega
  rcases Nat.eq_zero_or_pos x.lv with v | v
  · have a:=(h.leaf_up v (l:=x.ks.take x.half) (fun k=>Nd.left_mem)).1
    rw [lt] at a
    unfold Nd.rest
    rw [if_pos v]
    exact ⟨by omega,fun y=>by have:=hf y; omega⟩
  · obtain ⟨c,r,hr⟩:=h.first v
    have q:itB x.lv (noE,c)=noE.encS c:=by unfold itB; rw [if_neg (by omega)]
    have e0:=encS_noE_bounds (c:=c) (hk v (noE,c) (by rw [hr]; exact List.mem_cons_self ..))
    have tk:x.ks.take x.half=(noE,c) :: r.take (x.half - 1):=by
      rw [hr]
      obtain ⟨m,hm⟩:∃ m,x.half=m+1:=⟨x.half - 1,by omega⟩
      rw [hm]; rfl
    have a:=(h.inner_up hk v (l:=r.take (x.half - 1)) (fun k hk=>by rw [hr]; exact List.mem_of_mem_take hk)).1
    have lr:(r.take (x.half - 1)).length=x.half - 1:=by
      have:x.ks.length=r.length+1:=by rw [hr]; rfl
      rw [List.length_take]; omega
    rw [lr] at a
    have dr:x.ks.drop x.half=x.ks[x.half] :: x.ks.drop (x.half+1):=List.drop_eq_getElem_cons hh.2
    have q2:itB x.lv x.ks[x.half]=(x.ks[x.half]).1.encS (x.ks[x.half]).2:=by unfold itB; rw [if_neg (by omega)]
    have le:=encS_noE_le (c:=(x.ks[x.half]).2) (h.inner v _ (Nd.mem_tail hh.1 hh.2)).1
    have q3:itB x.lv (noE,(x.ks[x.half]).2)=noE.encS (x.ks[x.half]).2:=by unfold itB; rw [if_neg (by omega)]
    have gd:(x.ks.getD x.half (noE,0))=x.ks[x.half]:=by rw [List.getD_eq_getElem?_getD,List.getElem?_eq_getElem hh.2,Option.getD_some]
    rw [tk,List.map_cons,isz_cons,q,dr,List.map_cons,isz_cons,q2] at sm
    unfold Nd.rest
    rw [if_neg (by omega),gd,List.map_cons,isz_cons,q3]
    exact ⟨by omega,fun y=>by have:=hf y; omega⟩
theorem Nd.Ok.left (h:x.Ok lo) (hk:x.Kok) (hn:2≤x.ks.length) (j:Nat):(x.left j).Ok lo:=by
  have hh:=Nd.half_lt hn
  have hb:=h.bord hn
  have hsz:=h.left_size hk hn j
  refine ⟨?_,.inr ⟨hb.1,hb.2.1⟩,?_,?_,?_,by omega⟩
  · show Rise ((x.ks.take x.half).map Prod.fst)
    exact h.rise.sublist ((List.take_sublist _ _).map _)
  · intro v k hkk
    obtain ⟨a,b,c,_⟩:=h.leaf v k (Nd.left_mem hkk)
    refine ⟨a,b,c,byd_no.2 (.inr ?_)⟩
    show ¬ x.bord.lt k.1
    obtain ⟨h1,e⟩:=Nd.bord_leaf (x:=x) v hn
    rw [e]
    obtain ⟨i,hi,rfl⟩:=List.mem_take_iff_getElem.1 hkk
    intro l
    rcases Nat.lt_or_ge i (x.half - 1) with z | z
    · exact En.lt_asymm l (Nd.rise_ks h.rise h1 z)
    · have:i=x.half - 1:=by omega
      subst this
      exact En.lt_irrefl _ l
  · intro v
    obtain ⟨c,r,hr⟩:=h.first v
    refine ⟨c,r.take (x.half - 1),?_⟩
    show x.ks.take x.half=_
    rw [hr]
    obtain ⟨m,hm⟩:∃ m,x.half=m+1:=⟨x.half - 1,by omega⟩
    rw [hm]; rfl
  · intro v k hkk
    have hkk':k ∈ (x.ks.take x.half).tail:=hkk
    have ht:k ∈ x.ks.tail∧∃ i,∃ hi:i < x.ks.length,i < x.half∧k=x.ks[i]:=by
      obtain ⟨i,hi,rfl⟩:=List.mem_iff_getElem.1 hkk'
      rw [List.length_tail,List.length_take] at hi
      rw [List.getElem_tail,List.getElem_take]
      exact ⟨Nd.mem_tail (by omega) (by omega),i+1,by omega,by omega,rfl⟩
    obtain ⟨t,i,hi,hi2,rfl⟩:=ht
    obtain ⟨a,b,_⟩:=h.inner v _ t
    refine ⟨a,b,blw_yes.2 (.inr ?_)⟩
    obtain ⟨h1,e⟩:=Nd.bord_inner (x:=x) v hn
    show (x.ks[i]).1.lt x.bord
    rw [e]
    exact Nd.rise_ks h.rise h1 hi2
theorem Nd.rest_inner (hv:0 < x.lv) (hn:2≤x.ks.length):∃ h:x.half < x.ks.length,x.rest=(noE,(x.ks[x.half]).2) :: x.ks.drop (x.half+1):=by
  have hh:=Nd.half_lt hn
  refine ⟨hh.2,?_⟩
  unfold Nd.rest
  rw [if_neg (by omega),List.getD_eq_getElem?_getD,List.getElem?_eq_getElem hh.2,Option.getD_some]
theorem Nd.Ok.right (h:x.Ok lo) (hk:x.Kok) (hn:2≤x.ks.length):x.right.Ok x.bord:=by
  have hh:=Nd.half_lt hn
  have hb:=h.bord hn
  refine ⟨?_,?_,?_,?_,?_,(h.right_size hk hn).1⟩
  · show Rise (x.rest.map Prod.fst)
    rcases Nat.eq_zero_or_pos x.lv with v | v
    · unfold Nd.rest
      rw [if_pos v]
      exact h.rise.sublist ((List.drop_sublist _ _).map _)
    · obtain ⟨h1,e⟩:=Nd.rest_inner v hn
      rw [e,List.map_cons]
      refine List.pairwise_cons.2 ⟨?_,h.rise.sublist ((List.drop_sublist _ _).map _)⟩
      intro y hy
      obtain ⟨k,hkk,rfl⟩:=List.mem_map.1 hy
      obtain ⟨i,hi,rfl⟩:=List.mem_drop_iff_getElem.1 hkk
      exact noE_lt (h.inner v _ (Nd.mem_tail (by omega) (by omega))).1
  · rcases h.hiok with y | y
    · exact .inl y
    · refine .inr ⟨y.1,?_⟩
      rcases hb.2.2 with z | z
      · exact absurd z (En.ok_ne y.1)
      · exact z
  · intro v k hkk
    have hkk':k ∈ x.rest:=hkk
    have v':x.lv=0:=v
    unfold Nd.rest at hkk'
    rw [if_pos v'] at hkk'
    obtain ⟨a,b,_,c⟩:=h.leaf v' k (List.mem_of_mem_drop hkk')
    refine ⟨a,b,?_,c⟩
    obtain ⟨h1,e⟩:=Nd.bord_leaf v' hn
    rw [e]
    obtain ⟨i,hi,rfl⟩:=List.mem_drop_iff_getElem.1 hkk'
    exact Nd.rise_ks h.rise (by omega) (by omega)
  · intro v
    obtain ⟨h1,e⟩:=Nd.rest_inner (x:=x) v hn
    exact ⟨_,_,e⟩
  · intro v k hkk
    have v':0 < x.lv:=v
    obtain ⟨h1,e⟩:=Nd.rest_inner v' hn
    have hkk':k ∈ x.rest.tail:=hkk
    rw [e] at hkk'
    obtain ⟨i,hi,rfl⟩:=List.mem_drop_iff_getElem.1 (show k ∈ x.ks.drop (x.half+1) from hkk')
    obtain ⟨a,b,c⟩:=h.inner v' _ (Nd.mem_tail (i:=x.half+1+i) (by omega) (by omega))
    refine ⟨a,?_,c⟩
    obtain ⟨h2,e2⟩:=Nd.bord_inner v' hn
    rw [e2]
    exact Nd.rise_ks h.rise (by omega) (by omega)
end Halves
section Split
variable {N:Nat} {F:Nat→Nd} {lo:Nat→En} {A:En→Prop}
theorem Nd.rest_mem {x:Nd} (hn:2≤x.ks.length) {k:En × Int} (hk:k ∈ x.rest):k ∈ x.ks∨(0 < x.lv∧∃ h:x.half < x.ks.length,k=(noE,(x.ks[x.half]).2)):=by
  rcases Nat.eq_zero_or_pos x.lv with v | v
  · unfold Nd.rest at hk
    rw [if_pos v] at hk
    exact .inl (List.mem_of_mem_drop hk)
  · obtain ⟨h1,e⟩:=Nd.rest_inner v hn
    rw [e] at hk
    rcases List.mem_cons.1 hk with rfl | hk
    · exact .inr ⟨v,h1,rfl⟩
    · exact .inl (List.mem_of_mem_drop hk)
def Nd.over (x:Nd) (a b:Nat):Nd:=⟨x.lv+1,0,noE,[(noE,(a:Int)),(x.bord,(b:Int))]⟩
end Split
end Go.Proofs.YtipkeeobmihogaaGreat
