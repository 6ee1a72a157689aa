/- Parts. -/
import Derived.Test.YtajjakljheafjaaGreatK08
import Derived.Test.YtajjakljheafjaaGreatK09
set_option maxRecDepth 100000
namespace Go.Proofs.YtajjakljheafjaaGreat
open Go.RowKit
theorem ce_newP (w:World) (es ks:Value) (h e:En):Cv ((w.alloc (.cells #[es,ks,.string h.key,.int .i64 h.page,.int .i64 h.slot] 164)).alloc (.cells #[.string e.key,.int .i64 e.page,.int .i64 e.slot] 89)) w.heap.size es ks h∧Ev ((w.alloc (.cells #[es,ks,.string h.key,.int .i64 h.page,.int .i64 h.slot] 164)).alloc (.cells #[.string e.key,.int .i64 e.page,.int .i64 e.slot] 89)) (w.heap.size+1) e∧Only (fun _=>False) w ((w.alloc (.cells #[es,ks,.string h.key,.int .i64 h.page,.int .i64 h.slot] 164)).alloc (.cells #[.string e.key,.int .i64 e.page,.int .i64 e.slot] 89)):=by
  refine ⟨(Cv.new w es ks h).more (onlyA _ _),?_,o2 (onlyA _ _) (onlyA _ _)⟩
  have e1:=Ev.new (w.alloc (.cells #[es,ks,.string h.key,.int .i64 h.page,.int .i64 h.slot] 164)) e
  rw [World.size_alloc] at e1
  exact e1
def plV (es:List En) (e:En):Value:=.tuple #[.int .i64 (plE es e:Int),.bool (decide (e ∈ es))]
theorem Els.of {w:World} {B:Nat} {ao:Option Addr} {es:List En} (h:Els w B ao es) (j:Nat) (hj:j < es.length):∃ o,ao=some ⟨B,o,none⟩∧Eb w B (o+j * 3) es[j]:=by
  obtain ⟨o,e,hc⟩:=h.at_ (by omega)
  exact ⟨o,e,hc j hj⟩
theorem take_lt {es:List En} {e:En} (hr:Rise es) (m:Nat) (hm:m < es.length) (h:es[m].lt e):∀ z ∈ es.take (m+1),z.lt e:=by
  intro z hz
  obtain ⟨k,hk,rfl⟩:=List.mem_iff_getElem.1 hz
  rw [List.getElem_take]
  rw [List.length_take] at hk
  by_cases e1:k=m
  · subst e1; exact h
  · exact En.lt_trans (List.pairwise_iff_getElem.1 hr k m (by omega) hm (by omega)) h
theorem drop_nlt {es:List En} {e:En} (hr:Rise es) (m:Nat) (hm:m < es.length) (h:¬ es[m].lt e):∀ z ∈ es.drop m,¬ z.lt e:=by
  intro z hz
  obtain ⟨k,hk,rfl⟩:=List.mem_iff_getElem.1 hz
  rw [List.getElem_drop]
  rw [List.length_drop] at hk
  by_cases e1:k=0
  · subst e1; simpa using h
  · exact fun x=>h (En.lt_trans (List.pairwise_iff_getElem.1 hr m (m+k) hm (by omega) (by omega)) x)
theorem mem_at {es:List En} {e:En} (hr:Rise es) (i:Nat) (h1:∀ z ∈ es.take i,z.lt e) (h2:∀ z ∈ es.drop i,¬ z.lt e):e ∈ es ↔ ∃ h:i < es.length,es[i]=e:=by
  constructor
  · intro he
    obtain ⟨k,hk,rfl⟩:=List.mem_iff_getElem.1 he
    by_cases c:k < i
    · exact absurd (h1 es[k] (List.mem_take_iff_getElem.2 ⟨k,by omega,rfl⟩)) (En.lt_irrefl _)
    · by_cases d:k=i
      · subst d; exact ⟨hk,rfl⟩
      · have hi:i < es.length:=by omega
        have:=List.pairwise_iff_getElem.1 hr i k hi hk (by omega)
        exact absurd this (h2 es[i] (List.mem_drop_iff_getElem.2 ⟨0,by simpa using hi,by simp⟩))
  · rintro ⟨h,rfl⟩
    exact List.getElem_mem _
set_option maxHeartbeats 3200000 in
theorem bsf_any (w:World) (B n C:Nat) (A:Option Addr) (es:List En) (e:En) (hE:Els w B A es) (hn:es.length=n) (hl:n≤8796093021952) (hr:Rise es) :
    Calls Tryz.prog 128 #[.slice A n C,e.agg,.func (.func 125) #[] #[]] w fun x w'=>x=.returned (plV es e)∧Only (fun _=>False) w w':=by
  have HE:=hide hE
  have HN:=hide hn
  have HR:=hide hr
  have HV:=hide (Ev.new w e)
  have HO:=hide (onlyA w (.cells #[.string e.key,.int .i64 e.page,.int .i64 e.slot] 89))
  clear hE hn hr
  unfold En.agg
  go_enter Tryz.func128,Tryz.ntmps128
  go_upto_region 3 with fail
  obtain ⟨W0,hW0⟩:=exq (w.alloc (.cells #[.string e.key,.int .i64 e.page,.int .i64 e.slot] 89))
  rw [hW0] at HV HO ⊢
  clear hW0
  go_loopw [9,10] (fun x y wr=>∃ (i j:Nat),x=.int .i64 (i:Int)∧y=.int .i64 (j:Int)∧i≤j∧j≤n∧Hid ((∀ z ∈ es.take i,z.lt e)∧(∀ z ∈ es.drop j,¬ z.lt e))∧Hid (Only (fun _=>False) W0 wr)) (fun x y _=>(intOf y).toNat - (intOf x).toNat)
  case atStart=>exact ⟨0,n,rfl,rfl,Nat.zero_le _,Nat.le_refl _,hide ⟨(fun z hz=>by simp at hz),(fun z hz=>by have:=HN.out; rw [List.drop_of_length_le (by omega)] at hz; cases hz)⟩,hide (Only.refl _ _)⟩
  case round=>
    obtain ⟨i,j,rfl,rfl,hij,hjn,HI,HW⟩:=hrel
    by_cases hlt:i < j
    · have hk:(i:Int) < (j:Int):=by omega
      have HNM:=HN.out
      obtain ⟨m,hm⟩:∃ m:Nat,((i:Int)+(j:Int)) / 2=(m:Int):=⟨(i+j) / 2,by omega⟩
      have hmi:i≤m∧m < j:=by omega
      have hmn:¬ (n:Int)≤(m:Int):=by omega
      have hmn2:(m:Int) < (n:Int):=by omega
      go_upto_region 5 with fail
      clear hm
      have hml:m < es.length:=by omega
      obtain ⟨o,rfl,hb⟩:=(HE.out.more (o2 HO.out HW.out)).of m hml
      have HB:=hide hb
      have HV1:=hide (HV.out.more HW.out)
      have HM:Hid (∀ W,Calls Tryz.prog 125 #[.agg #[.string es[m].key,.int .i64 es[m].page,.int .i64 es[m].slot],.agg #[.string e.key,.int .i64 e.page,.int .i64 e.slot]] W fun x w'=>x=.returned (.int .i64 (cmpE es[m] e))∧Only (fun _=>False) W w'):=fun W=>compare_any es[m] e W
      clear hb HNM
      by_cases hc:es[m].lt e
      · have hz0:=cmpE_neg.2 hc
        have HI2:=hide (take_lt HR.out m hml hc)
        obtain ⟨f,hf⟩:=exq (es[m])
        rw [hf] at HB HM hz0
        obtain ⟨z,hz⟩:=exq (cmpE f e)
        rw [hz] at HM hz0
        clear hf hz hc hml
        -- {r5a
        refine wp_region_noPanic ?_
        refine wp_region_held_drew (S:=fun W=>Only (fun _=>False) wr W) (by kernel_rfl) (Only.drew _ _) (fun hHeld=>?_)
        refine tkP 0 (.func (.func 125) #[] #[]) rfl ?_
        refine tkP 1 (.slice (some ⟨B,o,none⟩) n C) rfl ?_
        refine tkP 2 (.int .i64 (m:Int)) rfl ?_
        refine tkQ 5 (.agg #[.string e.key,.int .i64 e.page,.int .i64 e.slot]) rfl (yieldsIf_load_ev (by rfl) _ rfl rfl (fun W hW=>HV1.out.more hW)) ?_
        refine tkP 3 (.pointer (some ⟨B,o+m * 3,none⟩)) rfl ?_
        refine tkQ 4 (.agg #[.string f.key,.int .i64 f.page,.int .i64 f.slot]) rfl (yieldsIf_load_eb (by rfl) _ rfl rfl (fun W hW=>HB.out.more hW)) ?_
        refine rd1 6 rfl (fun K hK=>?_)
        go_simp
        refine (HM.out _).mono ?_
        rintro x x1 ⟨rfl,hx1⟩
        have HX1:=hide (o2 hHeld hx1)
        clear hx1
        refine hK.out _ _ (HX1.out) (fun hHeld=>?_)
        clear hK K
        try simp only [Act.put,lsA,lsB,lsC]
        refine tkP 7 (.bool true) rfl ?_
        refine dnN ?_
        -- r5a}
        clear hz0
        go_wp2_with fail
        go_roundw
        case rel=>exact ⟨m+1,j,by go_num,rfl,by omega,hjn,hide ⟨HI2.out,HI.out.2⟩,hide (o2 HW.out HX1.out)⟩
        case measure=>simp [intOf]; omega
      · have hz0:¬ cmpE es[m] e < 0:=fun k=>hc (cmpE_neg.1 k)
        have HI2:=hide (drop_nlt HR.out m hml hc)
        obtain ⟨f,hf⟩:=exq (es[m])
        rw [hf] at HB HM hz0
        obtain ⟨z,hz⟩:=exq (cmpE f e)
        rw [hz] at HM hz0
        clear hf hz hc hml
        -- {r5b
        refine wp_region_noPanic ?_
        refine wp_region_held_drew (S:=fun W=>Only (fun _=>False) wr W) (by kernel_rfl) (Only.drew _ _) (fun hHeld=>?_)
        refine tkP 0 (.func (.func 125) #[] #[]) rfl ?_
        refine tkP 1 (.slice (some ⟨B,o,none⟩) n C) rfl ?_
        refine tkP 2 (.int .i64 (m:Int)) rfl ?_
        refine tkQ 5 (.agg #[.string e.key,.int .i64 e.page,.int .i64 e.slot]) rfl (yieldsIf_load_ev (by rfl) _ rfl rfl (fun W hW=>HV1.out.more hW)) ?_
        refine tkP 3 (.pointer (some ⟨B,o+m * 3,none⟩)) rfl ?_
        refine tkQ 4 (.agg #[.string f.key,.int .i64 f.page,.int .i64 f.slot]) rfl (yieldsIf_load_eb (by rfl) _ rfl rfl (fun W hW=>HB.out.more hW)) ?_
        refine rd1 6 rfl (fun K hK=>?_)
        go_simp
        refine (HM.out _).mono ?_
        rintro x x1 ⟨rfl,hx1⟩
        have HX1:=hide (o2 hHeld hx1)
        clear hx1
        refine hK.out _ _ (HX1.out) (fun hHeld=>?_)
        clear hK K
        try simp only [Act.put,lsA,lsB,lsC]
        refine tkP 7 (.bool false) rfl ?_
        refine dnN ?_
        -- r5b}
        clear hz0
        go_wp2_with fail
        go_roundw
        case rel=>exact ⟨i,m,rfl,rfl,by omega,by omega,hide ⟨HI.out.1,HI2.out⟩,hide (o2 HW.out HX1.out)⟩
        case measure=>simp [intOf]; omega
    · have hk:¬ (i:Int) < (j:Int):=by omega
      have ej:j=i:=by omega
      subst ej
      have HPL:Hid (plE es e=j):=plE_of (by have:=HN.out; omega) HI.out.1 HI.out.2
      have HME:=hide (mem_at HR.out j HI.out.1 HI.out.2)
      by_cases hin:j < n
      · have hin2:(j:Int) < (n:Int):=by omega
        have hin3:¬ (n:Int)≤(j:Int):=by omega
        have hje:j < es.length:=by have:=HN.out; omega
        obtain ⟨o,rfl,hb⟩:=(HE.out.more (o2 HO.out HW.out)).of j hje
        have HB:=hide hb
        have HV1:=hide (HV.out.more HW.out)
        have HM:Hid (∀ W,Calls Tryz.prog 125 #[.agg #[.string es[j].key,.int .i64 es[j].page,.int .i64 es[j].slot],.agg #[.string e.key,.int .i64 e.page,.int .i64 e.slot]] W fun x w'=>x=.returned (.int .i64 (cmpE es[j] e))∧Only (fun _=>False) W w'):=fun W=>compare_any es[j] e W
        have HQ:Hid ((cmpE es[j] e == 0)=decide (e ∈ es)):=by
          unfold Hid
          rw [Bool.eq_iff_iff]
          simp only [beq_iff_eq,decide_eq_true_eq]
          rw [cmpE_zero,HME.out]
          exact ⟨fun h=>⟨hje,h⟩,fun ⟨_,h⟩=>h⟩
        obtain ⟨f,hf⟩:=exq (es[j])
        rw [hf] at HB HM HQ
        obtain ⟨z,hz⟩:=exq (cmpE f e)
        rw [hz] at HM HQ
        clear hf hz hb
        go_upto_region 8 with fail
        -- {r8a
        refine wp_region_noPanic ?_
        refine wp_region_held_drew (S:=fun W=>Only (fun _=>False) wr W) (by kernel_rfl) (Only.drew _ _) (fun hHeld=>?_)
        refine tkP 0 (.int .i64 (j:Int)) rfl ?_
        refine tkP 1 (.int .i64 (j:Int)) rfl ?_
        refine tkP 2 (.int .i64 (n:Int)) rfl ?_
        refine tkP 3 (.bool true) rfl ?_
        refine tkP 4 (.bool true) rfl ?_
        refine tkP 5 (.func (.func 125) #[] #[]) rfl ?_
        refine tkP 6 (.slice (some ⟨B,o,none⟩) n C) rfl ?_
        refine tkP 7 (.int .i64 (j:Int)) rfl ?_
        refine tkQ 10 (.agg #[.string e.key,.int .i64 e.page,.int .i64 e.slot]) rfl (yieldsIf_load_ev (by rfl) _ rfl rfl (fun W hW=>HV1.out.more hW)) ?_
        refine tkP 8 (.pointer (some ⟨B,o+j * 3,none⟩)) rfl ?_
        refine tkQ 9 (.agg #[.string f.key,.int .i64 f.page,.int .i64 f.slot]) rfl (yieldsIf_load_eb (by rfl) _ rfl rfl (fun W hW=>HB.out.more hW)) ?_
        refine rd1 11 rfl (fun K hK=>?_)
        go_simp
        refine (HM.out _).mono ?_
        rintro x x1 ⟨rfl,hx1⟩
        have HX1:=hide (o2 hHeld hx1)
        clear hx1
        refine hK.out _ _ (HX1.out) (fun hHeld=>?_)
        clear hK K
        try simp only [Act.put,lsA,lsB,lsC]
        refine tkP 12 (.bool (z == 0)) rfl ?_
        refine tkP 14 (.int .i64 (j:Int)) rfl ?_
        refine tkP 13 (.bool (z == 0)) rfl ?_
        refine tkP 15 (.bool (z == 0)) rfl ?_
        refine dnN ?_
        -- r8a}
        go_wp2_with fail
        go_ret2
        exact ⟨by unfold plV; rw [HPL.out,← HQ.out]; rfl,o2 HO.out (o2 HW.out HX1.out)⟩
      · have hin2:¬ (j:Int) < (n:Int):=by omega
        have HQ:Hid (decide (e ∈ es)=false):=by
          unfold Hid
          rw [decide_eq_false_iff_not,HME.out]
          rintro ⟨h,_⟩
          have:=HN.out
          omega
        go_upto_region 8 with fail
        -- {r8b
        refine wp_region_noPanic ?_
        refine wp_region_held_drew (S:=fun W=>Only (fun _=>False) wr W) (by kernel_rfl) (Only.drew _ _) (fun hHeld=>?_)
        refine tkP 0 (.int .i64 (j:Int)) rfl ?_
        refine tkP 1 (.int .i64 (j:Int)) rfl ?_
        refine tkP 2 (.int .i64 (n:Int)) rfl ?_
        refine tkP 3 (.bool false) rfl ?_
        refine tkP 4 (.bool false) rfl ?_
        refine tkQ 5 undef rfl (Or.inr ⟨by rfl,rfl⟩) ?_
        refine tkQ 6 undef rfl (Or.inr ⟨by rfl,rfl⟩) ?_
        refine tkQ 7 undef rfl (Or.inr ⟨by rfl,rfl⟩) ?_
        refine tkQ 10 undef rfl (Or.inr ⟨by rfl,rfl⟩) ?_
        refine tkQ 8 undef rfl (Or.inr ⟨by rfl,rfl⟩) ?_
        refine tkQ 9 undef rfl (Or.inr ⟨by rfl,rfl⟩) ?_
        refine tkQ 11 undef rfl (Or.inr ⟨by rfl,rfl⟩) ?_
        refine tkQ 12 undef rfl (Or.inr ⟨by rfl,rfl⟩) ?_
        refine tkP 14 (.int .i64 (j:Int)) rfl ?_
        refine tkP 13 (.bool false) rfl ?_
        refine tkP 15 (.bool false) rfl ?_
        refine dnN ?_
        -- r8b}
        go_wp2_with fail
        go_ret2
        exact ⟨by unfold plV; rw [HPL.out,HQ.out]; rfl,o2 HO.out (o2 HW.out (Only.drew _ _))⟩
theorem place_any (w:World) (B n C:Nat) (A A2:Option Addr) (n2 C2:Nat) (hi:En) (es:List En) (e:En) (hE:Els w B A es) (hn:es.length=n) (hl:n≤8796093021952) (hr:Rise es) :
    Calls Tryz.prog 86 #[cvv (.slice A n C) (.slice A2 n2 C2) hi,e.agg] w fun x w'=>x=.returned (plV es e)∧Only (fun _=>False) w w':=by
  have HX:=hide (ce_newP w (.slice A n C) (.slice A2 n2 C2) hi e)
  have HB:Hid (∀ W,Only (fun _=>False) w W→Calls Tryz.prog 128 #[.slice A n C,.agg #[.string e.key,.int .i64 e.page,.int .i64 e.slot],.func (.func 125) #[] #[]] W fun x w'=>x=.returned (plV es e)∧Only (fun _=>False) W w'):=fun W ho=>bsf_any W B n C A es e (hE.more ho) hn hl hr
  clear hE hn hl hr
  unfold plV at HB ⊢
  obtain ⟨P,hP⟩:∃ P:Int,(plE es e:Int)=P:=⟨_,rfl⟩
  obtain ⟨D,hD⟩:=exq (decide (e ∈ es))
  rw [hP,hD] at HB ⊢
  clear hP hD
  unfold cvv En.agg
  go_enter Tryz.func86,Tryz.ntmps86
  go_upto_region 1 with fail
  obtain ⟨W0,hW0⟩:=exq ((w.alloc (.cells #[.slice A n C,.slice A2 n2 C2,.string hi.key,.int .i64 hi.page,.int .i64 hi.slot] 164)).alloc (.cells #[.string e.key,.int .i64 e.page,.int .i64 e.slot] 89))
  rw [hW0] at HX ⊢
  clear hW0
  have q0:=HX.out.1.c0
  obtain ⟨d0,d1,d2,_⟩:=HX.out.2.1
  go_wp2_with fail
  refine (HB.out _ HX.out.2.2).mono ?_
  rintro x w1 ⟨rfl,ho⟩
  have HO1:=hide (o2 HX.out.2.2 ho)
  clear ho
  go_wp2_with fail
  go_ret2
  exact ⟨rfl,HO1.out⟩
theorem ce_new (w:World) (es ks:Value) (h e:En):Cv ((w.alloc (.cells #[es,ks,.string h.key,.int .i64 h.page,.int .i64 h.slot] 164)).alloc (.cells #[.string e.key,.int .i64 e.page,.int .i64 e.slot] 89)) w.heap.size es ks h∧Ev ((w.alloc (.cells #[es,ks,.string h.key,.int .i64 h.page,.int .i64 h.slot] 164)).alloc (.cells #[.string e.key,.int .i64 e.page,.int .i64 e.slot] 89)) (w.heap.size+1) e∧Only (fun _=>False) w ((w.alloc (.cells #[es,ks,.string h.key,.int .i64 h.page,.int .i64 h.slot] 164)).alloc (.cells #[.string e.key,.int .i64 e.page,.int .i64 e.slot] 89)):=by
  refine ⟨(Cv.new w es ks h).more (onlyA _ _),?_,o2 (onlyA _ _) (onlyA _ _)⟩
  have e1:=Ev.new (w.alloc (.cells #[es,ks,.string h.key,.int .i64 h.page,.int .i64 h.slot] 164)) e
  rw [World.size_alloc] at e1
  exact e1
theorem follows_first (w:World) (a1 a2:Option Addr) (c1 n2 c2:Nat) (h:En) :
    Calls Tryz.prog 140 #[cvv (.slice a1 0 c1) (.slice a2 n2 c2) h,noE.agg] w fun x w'=>x=.returned (.bool true)∧Only (fun _=>False) w w':=by
  have HL:Hid (∀ W,Calls Tryz.prog 127 #[.agg #[.string ⟨#[]⟩,.int .i64 0,.int .i64 0]] W fun x w'=>x=.returned (.bool true)∧Only (fun _=>False) W w'):=fun W=>isLeast_any noE W
  have HX:=hide (ce_new w (.slice a1 0 c1) (.slice a2 n2 c2) h noE)
  unfold cvv noE En.agg
  unfold noE at HX
  simp only [] at HX ⊢
  go_enter Tryz.func140,Tryz.ntmps140
  go_upto_region 1 with fail
  obtain ⟨W0,hW0⟩:=exq ((w.alloc (.cells #[.slice a1 0 c1,.slice a2 n2 c2,.string h.key,.int .i64 h.page,.int .i64 h.slot] 164)).alloc (.cells #[.string ⟨#[]⟩,.int .i64 0,.int .i64 0] 89))
  rw [hW0] at HX ⊢
  clear hW0
  have q0:=HX.out.1.c0
  obtain ⟨d0,d1,d2,_⟩:=HX.out.2.1
  simp only [] at d0 d1 d2
  go_wp2_with fail
  refine (HL.out _).mono ?_
  rintro x w1 ⟨rfl,ho⟩
  have HO1:=hide (o2 HX.out.2.2 ho)
  clear ho
  go_wp2_with fail
  go_ret
  exact ⟨rfl,HO1.out⟩
set_option maxHeartbeats 1600000 in
theorem follows_next (w:World) (B o n c1 n2 c2:Nat) (a2:Option Addr) (h e la:En) (hE:Eb w B (o+n * 3) la) (hlt:la.lt e) (hb:blw h e=true) (hn:n≤8796093021952) :
    Calls Tryz.prog 140 #[cvv (.slice (some ⟨B,o,none⟩) (n+1) c1) (.slice a2 n2 c2) h,e.agg] w fun x w'=>x=.returned (.bool true)∧Only (fun _=>False) w w':=by
  have HM:Hid (∀ W,Calls Tryz.prog 125 #[.agg #[.string e.key,.int .i64 e.page,.int .i64 e.slot],.agg #[.string la.key,.int .i64 la.page,.int .i64 la.slot]] W fun x w'=>x=.returned (.int .i64 (cmpE e la))∧Only (fun _=>False) W w'):=fun W=>compare_any e la W
  have HB:Hid (∀ W,Calls Tryz.prog 148 #[.agg #[.slice (some ⟨B,o,none⟩) (n+1) c1,.slice a2 n2 c2,.string h.key,.int .i64 h.page,.int .i64 h.slot],.agg #[.string e.key,.int .i64 e.page,.int .i64 e.slot]] W fun x w'=>x=.returned (.bool true)∧Only (fun _=>False) W w'):=fun W=>by
    have:=isBelow_any W (some ⟨B,o,none⟩) a2 (n+1) n2 c1 c2 h e
    rw [hb] at this
    exact this
  have hz0:=cmpE_pos.2 hlt
  obtain ⟨z,hz⟩:=exq (cmpE e la)
  rw [hz] at HM hz0
  have HX:=hide (ce_new w (.slice (some ⟨B,o,none⟩) (n+1) c1) (.slice a2 n2 c2) h e)
  have HEB:=hide (hE.more HX.out.2.2)
  clear hlt hb hz hE
  unfold cvv En.agg
  go_enter Tryz.func140,Tryz.ntmps140
  go_upto_region 1 with fail
  obtain ⟨W0,hW0⟩:=exq ((w.alloc (.cells #[.slice (some ⟨B,o,none⟩) (n+1) c1,.slice a2 n2 c2,.string h.key,.int .i64 h.page,.int .i64 h.slot] 164)).alloc (.cells #[.string e.key,.int .i64 e.page,.int .i64 e.slot] 89))
  rw [hW0] at HX HEB ⊢
  clear hW0
  have q0:=HX.out.1.c0
  have hn0:((n:Int)+1 == 0)=false:=by simp; omega
  go_upto_region 3 with fail
  clear q0 hn0
  have hwn:IntKind.i64.wrap (n:Int)=(n:Int):=by rw [IntKind.wrap_i64]; omega
  have hle:¬ (n:Int)+1≤(n:Int):=by omega
  -- {r3
  refine wp_region_noPanic ?_
  refine wp_region_held_drew (S:=fun W=>Only (fun _=>False) W0 W) (by kernel_rfl) (Only.drew _ _) (fun hHeld=>?_)
  refine tkQ 0 (.agg #[.string e.key,.int .i64 e.page,.int .i64 e.slot]) rfl (yieldsIf_load_ev (by rfl) _ rfl rfl (fun W hW=>HX.out.2.1.more hW)) ?_
  refine tkP 1 (.pointer (some ⟨w.heap.size,0,none⟩)) rfl ?_
  refine tkP 3 (.pointer (some ⟨w.heap.size,0,none⟩)) rfl ?_
  refine tkQ 2 (.slice (some ⟨B,o,none⟩) (n+1) c1) rfl (yieldsIf_load_cell (by rfl) 92 _ rfl _ rfl (fun W hW=>(HX.out.1.more hW).c0) (fun W hc=>ld_entries hc)) ?_
  refine tkQ 4 (.slice (some ⟨B,o,none⟩) (n+1) c1) rfl (yieldsIf_load_cell (by rfl) 92 _ rfl _ rfl (fun W hW=>(HX.out.1.more hW).c0) (fun W hc=>ld_entries hc)) ?_
  refine tkP 5 (.int .i64 ((n:Int)+1)) rfl ?_
  refine tkP 6 (.int .i64 (n:Int)) rfl ?_
  refine tkP 7 (.pointer (some ⟨B,o+n * 3,none⟩)) rfl ?_
  refine tkQ 8 (.agg #[.string la.key,.int .i64 la.page,.int .i64 la.slot]) rfl (yieldsIf_load_eb (by rfl) _ rfl rfl (fun W hW=>HEB.out.more hW)) ?_
  refine rd1 9 rfl (fun K hK=>?_)
  go_simp
  refine (HM.out _).mono ?_
  rintro x x1 ⟨rfl,hx1⟩
  have HX1:=hide (o2 hHeld hx1)
  clear hx1
  refine hK.out _ _ (HX1.out) (fun hHeld=>?_)
  clear hK K
  try simp only [Act.put,lsA,lsB,lsC]
  refine tkP 10 (.bool true) rfl ?_
  refine tkP 11 (.bool true) rfl ?_
  refine tkQ 12 (.agg #[.slice (some ⟨B,o,none⟩) (n+1) c1,.slice a2 n2 c2,.string h.key,.int .i64 h.page,.int .i64 h.slot]) rfl (yieldsIf_load_cv (by rfl) _ rfl rfl (fun W hW=>HX.out.1.more hW)) ?_
  refine tkQ 13 (.agg #[.string e.key,.int .i64 e.page,.int .i64 e.slot]) rfl (yieldsIf_load_ev (by rfl) _ rfl rfl (fun W hW=>HX.out.2.1.more hW)) ?_
  refine rd1 14 rfl (fun K hK=>?_)
  go_simp
  refine (HB.out _).mono ?_
  rintro x x2 ⟨rfl,hx2⟩
  have HX2:=hide (o2 HX1.out hx2)
  clear hx2
  refine hK.out _ _ (HX2.out) (fun hHeld=>?_)
  clear hK K
  try simp only [Act.put,lsA,lsB,lsC]
  refine tkP 15 (.bool true) rfl ?_
  refine tkP 16 (.bool true) rfl ?_
  refine dnN ?_
  go_wp2_with fail
  go_ret
  exact ⟨rfl,o2 HX.out.2.2 HX2.out⟩
  -- r3}
instance (p:Pg):Decidable p.inRange:=by unfold Pg.inRange; exact inferInstance
instance (p:Pg):Decidable p.fits:=by unfold Pg.fits; exact inferInstance
def Pg.out (p:Pg):List UInt8 × Int:=if p.inRange then (if p.fits then (p.enc,0) else ([],3)) else ([],4)
theorem out_ok {p:Pg} (h1:p.inRange) (h2:p.fits):p.out=(p.enc,0):=by unfold Pg.out; rw [if_pos h1,if_pos h2]
theorem out_long {p:Pg} (h1:p.inRange) (h2:¬ p.fits):p.out=([],3):=by unfold Pg.out; rw [if_pos h1,if_neg h2]
theorem out_range {p:Pg} (h1:¬ p.inRange):p.out=([],4):=by unfold Pg.out; rw [if_neg h1]
set_option maxHeartbeats 1600000 in
theorem pencode_any (w:World) (a k v r:Int) (h:ByteArray) (B cp:Nat) (ao:Option Addr) (l:List ByteArray) (hS:Strs w B ao l) (hh:h.size≤140737488355328) (ha:a < 9223372036854775808) :
    Calls Tryz.prog 97 #[.agg #[.int .i64 a,.int .i64 k,.int .i64 v,.int .i64 r,.string h,.slice ao l.length cp]] w fun e w'=>e=.returned (.tuple #[.string (str (Pg.out ⟨a,k,v,r,h,l⟩).1),.int .i64 (Pg.out ⟨a,k,v,r,h,l⟩).2])∧Only (fun _=>False) w w':=by
  have HS:=hide hS
  clear hS
  have HP:=hide (Pag.new w (.int .i64 a) (.int .i64 k) (.int .i64 v) (.int .i64 r) (.string h) (.slice ao l.length cp))
  have HO0:=hide (onlyA w (.cells #[.int .i64 a,.int .i64 k,.int .i64 v,.int .i64 r,.string h,.slice ao l.length cp] 37))
  go_enter Tryz.func97,Tryz.ntmps97
  go_wp2_with fail
  refine (inRange_any _ a k v r h cp l.length ao).mono ?_
  rintro e w1 ⟨rfl,ho1⟩
  obtain ⟨p0,p1,p2,p3,p4,p5,_⟩:=HP.out.more ho1
  have HO1:=hide ho1
  clear ho1
  by_cases hr:Pg.inRange ⟨a,k,v,r,h,l⟩
  · have hd:decide (0≤a∧1≤k∧k≤3∧0≤v∧v≤255∧0≤r∧r≤4294967295)=true:=decide_eq_true hr
    rw [hd]
    have HR:=hide hr
    clear hr hd
    by_cases hf:Pg.fits ⟨a,k,v,r,h,l⟩
    · have HOUT:=hide (out_ok HR.out hf)
      have HV:Hid (Pg.valid ⟨a,k,v,r,h,l⟩):=⟨HR.out,hf,ha⟩
      have hh2:¬ (255:Int) < (h.size:Int):=by have:=hf.1; simp only at this; omega
      have hdl:decide (255 < l.length∨512 < 20+h.size+isz l)=false:=decide_eq_false (by have h1:=hf.2.1; have h2:=hf.2.2; simp only [Pg.size] at h1 h2; omega)
      have HDL:=hide hdl
      clear hf hdl
      go_wp2_with fail
      refine (tooLong_any _ a k v r h B cp ao l (HS.out.more (o2 HO0.out HO1.out)) hh).mono ?_
      rintro e w2 ⟨rfl,ho2⟩
      rw [HDL.out]
      clear p0 p1 p2 p3 p4 p5
      have HO2:=hide (o2 HO1.out ho2)
      obtain ⟨p0,p1,p2,p3,p4,p5,_⟩:=HP.out.more HO2.out
      clear ho2
      go_wp2_with fail
      refine (body_any _ a k v r h B cp ao l (HS.out.more (o2 HO0.out HO2.out)) HV.out).mono ?_
      rintro e w3 ⟨rfl,ho3⟩
      have HO3:=hide (o2 (o2 HO0.out HO2.out) ho3)
      clear p0 p1 p2 p3 p4 p5 ho3
      obtain ⟨bd,hbd⟩:=exq (Pg.body ⟨a,k,v,r,h,l⟩)
      have hbl:=body_len _ HV.out.fit.2.2
      have henc:Pg.enc ⟨a,k,v,r,h,l⟩=bigF 4 (sum bd).toNat++bd:=by rw [← hbd]; rfl
      rw [hbd] at hbl ⊢
      have HENC:=hide henc
      have hX:(str bd).size=508:=hbl
      obtain ⟨X,hXe⟩:=exq (str bd)
      rw [hXe] at hX ⊢
      have HX:=hide hXe
      have HX8:=hide hX
      have hXle:X.size≤508:=by omega
      have hsb:=sum_bd bd
      have HSUM:Hid (sum X.data.toList=sum bd):=by unfold Hid; rw [← hXe]; rfl
      clear hbd henc hX hXe hbl
      go_wp2_with fail
      refine (sum_any X w3 (by unfold maxLen; omega)).mono ?_
      rw [HSUM.out]
      obtain ⟨z,hz⟩:=exq (sum bd)
      rw [hz] at hsb ⊢
      rintro e w4 ⟨rfl,rfl⟩
      have hz0:=hsb.1
      have hz1:=hsb.2
      go_wp2_with fail
      refine (big_int z 4 w4 (by omega) (by omega) hz0 (by omega)).mono ?_
      rintro e w5 ⟨rfl,ho5⟩
      obtain ⟨Y,hYe⟩:=exq (str (bigF 4 z.toNat))
      have hYs:Y.size≤4:=by rw [← hYe,str_size,bigF_len]; omega
      have HFIN:Hid (Y++X=str (Pg.enc ⟨a,k,v,r,h,l⟩)):=by unfold Hid; rw [HENC.out,hz,← HX.out,← hYe,str_cat]
      rw [hYe]
      have HO5:=hide (o2 HO3.out ho5)
      clear ho5 hYe
      have hXY:¬ (9223372036854775807:Int) < (Y.size:Int)+(X.size:Int):=by omega
      go_wp2_with fail
      go_ret2
      rw [HOUT.out,← HFIN.out]
      exact ⟨rfl,HO5.out⟩
    · have HOUT:=hide (out_long HR.out hf)
      by_cases hh2:255 < h.size
      · have hh3:(255:Int) < (h.size:Int):=by omega
        clear hf hh2
        go_wp2_with fail
        go_ret2
        rw [HOUT.out]
        exact ⟨rfl,o2 HO0.out HO1.out⟩
      · have hh3:¬ (255:Int) < (h.size:Int):=by omega
        have hdl:decide (255 < l.length∨512 < 20+h.size+isz l)=true:=decide_eq_true (by
          have h1:¬ (h.size≤255∧l.length≤255∧20+h.size+isz l≤512):=hf
          omega)
        have HDL:=hide hdl
        clear hf hdl hh2
        go_wp2_with fail
        refine (tooLong_any _ a k v r h B cp ao l (HS.out.more (o2 HO0.out HO1.out)) hh).mono ?_
        rintro e w2 ⟨rfl,ho2⟩
        rw [HDL.out]
        have HO2:=hide (o2 (o2 HO0.out HO1.out) ho2)
        clear ho2 p0 p1 p2 p3 p4 p5
        go_wp2_with fail
        go_ret2
        rw [HOUT.out]
        exact ⟨rfl,HO2.out⟩
  · have hd:decide (0≤a∧1≤k∧k≤3∧0≤v∧v≤255∧0≤r∧r≤4294967295)=false:=decide_eq_false hr
    rw [hd]
    have HOUT:=hide (out_range hr)
    clear hd hr
    go_wp2_with fail
    go_ret2
    rw [HOUT.out]
    exact ⟨rfl,o2 HO0.out HO1.out⟩
def hdO (k v r:Int) (h:ByteArray):Option En:=if k=3∧0≤v∧v≤255∧0≤r∧r≤65535 then (if h=⟨#[]⟩ then some noE else decE (bl h)) else none
theorem readHead_few (w:World) (a k v r:Int) (h:ByteArray) (ao:Option Addr) (n cp:Nat) (hb:¬ (k=3∧0≤v∧v≤255∧0≤r∧r≤65535)) :
    Calls Tryz.prog 124 #[pgv a k v r h ao n cp] w fun e w'=>e=.returned (.tuple #[noE.agg,.bool false])∧Only (fun _=>False) w w':=by
  by_cases hk:k=3
  · subst hk
    have HX:=hide (hd_new w (.int .i64 a) (.int .i64 3) (.int .i64 v) (.int .i64 r) (.string h) (.slice ao n cp))
    by_cases h1:v < 0
    · clear hb
      unfold pgv
      go_enter Tryz.func124,Tryz.ntmps124
      go_upto_region 1 with fail
      obtain ⟨W0,hW0⟩:=exq ((w.alloc (.cells #[.int .i64 a,.int .i64 3,.int .i64 v,.int .i64 r,.string h,.slice ao n cp] 37)).alloc (.cells #[.string ⟨#[]⟩,.int .i64 0,.int .i64 0] 89))
      rw [hW0] at HX ⊢
      clear hW0
      obtain ⟨p0,p1,p2,p3,p4,p5,_⟩:=HX.out.1
      obtain ⟨q0,q1,q2,g0,g1,g2,ql⟩:=HX.out.2.1
      go_wp2_with fail
      refine bodyPost_ret (results_ev rfl rfl (HX.out.2.1.all noE)) rfl ?_
      exact ⟨rfl,HX.out.2.2.trans (Only.three _ _ _ _ _) (fun i hi e=>by omega)⟩
    · by_cases h2:(255:Int) < v
      · clear hb
        unfold pgv
        go_enter Tryz.func124,Tryz.ntmps124
        go_upto_region 1 with fail
        obtain ⟨W0,hW0⟩:=exq ((w.alloc (.cells #[.int .i64 a,.int .i64 3,.int .i64 v,.int .i64 r,.string h,.slice ao n cp] 37)).alloc (.cells #[.string ⟨#[]⟩,.int .i64 0,.int .i64 0] 89))
        rw [hW0] at HX ⊢
        clear hW0
        obtain ⟨p0,p1,p2,p3,p4,p5,_⟩:=HX.out.1
        obtain ⟨q0,q1,q2,g0,g1,g2,ql⟩:=HX.out.2.1
        go_wp2_with fail
        refine bodyPost_ret (results_ev rfl rfl (HX.out.2.1.all noE)) rfl ?_
        exact ⟨rfl,HX.out.2.2.trans (Only.three _ _ _ _ _) (fun i hi e=>by omega)⟩
      · have HN:Hid (∀ W,Calls Tryz.prog 126 #[.int .i64 r] W fun e w'=>e=.returned (.bool false)∧w'=W):=fun W=>by
          have:=isNumber_any r W
          rwa [show nm r=false by unfold nm; simp; omega] at this
        clear hb
        unfold pgv
        go_enter Tryz.func124,Tryz.ntmps124
        go_upto_region 1 with fail
        obtain ⟨W0,hW0⟩:=exq ((w.alloc (.cells #[.int .i64 a,.int .i64 3,.int .i64 v,.int .i64 r,.string h,.slice ao n cp] 37)).alloc (.cells #[.string ⟨#[]⟩,.int .i64 0,.int .i64 0] 89))
        rw [hW0] at HX ⊢
        clear hW0
        obtain ⟨p0,p1,p2,p3,p4,p5,_⟩:=HX.out.1
        obtain ⟨q0,q1,q2,g0,g1,g2,ql⟩:=HX.out.2.1
        go_wp2_with fail
        refine (HN.out _).mono ?_
        rintro x w1 ⟨rfl,h1⟩
        obtain rfl:=h1.symm
        go_wp2_with fail
        refine bodyPost_ret (results_ev rfl rfl (HX.out.2.1.all noE)) rfl ?_
        exact ⟨rfl,HX.out.2.2.trans (Only.three _ _ _ _ _) (fun i hi e=>by omega)⟩
  · exact readHead_bad w a k v r h ao n cp hk
theorem readHead_none (w:World) (a v r:Int) (h:ByteArray) (ao:Option Addr) (n cp:Nat) (hv:0≤v∧v≤255) (hr:0≤r∧r≤65535) (hx:¬ h=⟨#[]⟩) (hd:decE (bl h)=none) :
    Calls Tryz.prog 124 #[pgv a 3 v r h ao n cp] w fun e w'=>e=.returned (.tuple #[noE.agg,.bool false])∧Only (fun _=>False) w w':=by
  have HX:=hide (hd_new w (.int .i64 a) (.int .i64 3) (.int .i64 v) (.int .i64 r) (.string h) (.slice ao n cp))
  have HN:Hid (∀ W,Calls Tryz.prog 126 #[.int .i64 r] W fun e w'=>e=.returned (.bool true)∧w'=W):=fun W=>by
    have:=isNumber_any r W
    rwa [show nm r=true by unfold nm; simp; omega] at this
  have t1:¬ v < 0:=by omega
  have t2:¬ (255:Int) < v:=by omega
  have HD:Hid (∀ W,Calls Tryz.prog 99 #[.string h] W fun e w'=>e=.returned (.tuple #[.agg #[.string ⟨#[]⟩,.int .i64 0,.int .i64 0],.int .i64 140])∧Only (fun _=>False) W w'):=fun W=>by
    have:=decode_any h W
    rw [hd] at this
    exact this
  have hne:=ba_neN (s:=h) (t:=⟨#[]⟩) hx
  have hne':¬ h.toList=[]:=by
    have h2:¬ h.toList=(⟨#[]⟩:ByteArray).toList:=by simpa using hne
    rw [ByteArray.toList_eq ⟨#[]⟩] at h2
    exact h2
  have hn1:(h.toList == [])=false:=by simpa using hne'
  have hn2:h.toList.isEmpty=false:=by
    cases e:h.toList with
    | nil=>exact absurd e hne'
    | cons _ _=>rfl
  clear hx hd hne hv hr
  unfold pgv
  go_enter Tryz.func124,Tryz.ntmps124
  go_upto_region 1 with fail
  obtain ⟨W0,hW0⟩:=exq ((w.alloc (.cells #[.int .i64 a,.int .i64 3,.int .i64 v,.int .i64 r,.string h,.slice ao n cp] 37)).alloc (.cells #[.string ⟨#[]⟩,.int .i64 0,.int .i64 0] 89))
  rw [hW0] at HX ⊢
  clear hW0
  obtain ⟨p0,p1,p2,p3,p4,p5,_⟩:=HX.out.1
  go_wp2_with fail
  refine (HN.out _).mono ?_
  rintro x w1 ⟨rfl,h1⟩
  obtain rfl:=h1.symm
  go_wp2_with fail
  refine (HD.out _).mono ?_
  rintro x w2 ⟨rfl,ho⟩
  have HE2:=hide (HX.out.2.1.more ho)
  have HO2:=hide (o2 HX.out.2.2 ho)
  clear ho p0 p1 p2 p3 p4 p5 HX
  go_upto_region 6 with fail
  have HE3:=hide (HE2.out.more (onlyA w2 (.cells #[.string ⟨#[]⟩,.int .i64 0,.int .i64 0] 89)))
  have HO3:=hide (o2 HO2.out (onlyA w2 (.cells #[.string ⟨#[]⟩,.int .i64 0,.int .i64 0] 89)))
  have HV3:=hide (Ev.new w2 noE)
  clear HE2 HO2
  obtain ⟨W3,hW3⟩:=exq (w2.alloc (.cells #[.string ⟨#[]⟩,.int .i64 0,.int .i64 0] 89))
  have HV4:Hid (Ev W3 w2.heap.size noE):=by rw [← hW3]; exact HV3.out
  rw [hW3] at HE3 HO3 ⊢
  clear hW3 HV3
  obtain ⟨q0,q1,q2,g0,g1,g2,ql⟩:=HE3.out
  obtain ⟨d0,d1,d2,_⟩:=HV4.out
  go_wp2_with fail
  refine bodyPost_ret (results_ev rfl rfl (HE3.out.all noE)) rfl ?_
  exact ⟨rfl,HO3.out.trans (Only.three _ _ _ _ _) (fun i hi e=>by omega)⟩
theorem HiIs.of_dec {h:ByteArray} {hi:En} (hd:decE (bl h)=some hi):HiIs h hi:=by
  obtain ⟨o1,o2⟩:=decE_some hd
  exact .inr ⟨by unfold En.enc; rw [← o2,str_bl],o1⟩
theorem readHead_any (w:World) (a k v r:Int) (h:ByteArray) (ao:Option Addr) (n cp:Nat) :
    Calls Tryz.prog 124 #[pgv a k v r h ao n cp] w fun e w'=>e=.returned (.tuple #[((hdO k v r h).getD noE).agg,.bool (hdO k v r h).isSome])∧Only (fun _=>False) w w':=by
  unfold hdO
  by_cases hb:k=3∧0≤v∧v≤255∧0≤r∧r≤65535
  · rw [if_pos hb]
    obtain ⟨rfl,h1,h2,h3,h4⟩:=hb
    by_cases hx:h=⟨#[]⟩
    · rw [if_pos hx]
      exact readHead_ok w a v r h noE ao n cp ⟨h1,h2⟩ ⟨h3,h4⟩ (.inl ⟨hx,rfl⟩)
    · rw [if_neg hx]
      cases hd:decE (bl h) with
      | none=>exact readHead_none w a v r h ao n cp ⟨h1,h2⟩ ⟨h3,h4⟩ hx hd
      | some hi=>exact readHead_ok w a v r h hi ao n cp ⟨h1,h2⟩ ⟨h3,h4⟩ (HiIs.of_dec hd)
  · rw [if_neg hb]
    exact readHead_few w a k v r h ao n cp hb
end Go.Proofs.YtajjakljheafjaaGreat
