/- Parts. -/
import Derived.Test.YtajjakljheafjaaGreatK12
import Derived.Test.YtajjakljheafjaaGreatK15
set_option maxRecDepth 100000
namespace Go.Proofs.YtajjakljheafjaaGreat
open Go.RowKit
theorem Or3.any {w w':World} {e:Ending} {c:Prop} {P:Pg} (h:Or3 w w' e c P):∃ p k,Res w w' e p k∧((c∧p=.none∧k=3)∨(¬ c∧p=P∧k=0)):=by
  by_cases hc:c
  · exact ⟨_,_,h.1 hc,.inl ⟨hc,rfl,rfl⟩⟩
  · exact ⟨_,_,h.2 hc,.inr ⟨hc,rfl,rfl⟩⟩
theorem ins_new (w:World) (v0 v1 v2 v3 v4 v5:Value) (e:En):Pag (((w.alloc (.cells #[v0,v1,v2,v3,v4,v5] 37)).alloc (.cells #[.string e.key,.int .i64 e.page,.int .i64 e.slot] 89)).alloc (.cells #[.int .i64 0,.int .i64 0,.int .i64 0,.int .i64 0,.string ⟨#[]⟩,.slice none 0 0] 37)) w.heap.size v0 v1 v2 v3 v4 v5∧Ev (((w.alloc (.cells #[v0,v1,v2,v3,v4,v5] 37)).alloc (.cells #[.string e.key,.int .i64 e.page,.int .i64 e.slot] 89)).alloc (.cells #[.int .i64 0,.int .i64 0,.int .i64 0,.int .i64 0,.string ⟨#[]⟩,.slice none 0 0] 37)) (w.heap.size+1) e∧Pag (((w.alloc (.cells #[v0,v1,v2,v3,v4,v5] 37)).alloc (.cells #[.string e.key,.int .i64 e.page,.int .i64 e.slot] 89)).alloc (.cells #[.int .i64 0,.int .i64 0,.int .i64 0,.int .i64 0,.string ⟨#[]⟩,.slice none 0 0] 37)) (w.heap.size+1+1) (.int .i64 0) (.int .i64 0) (.int .i64 0) (.int .i64 0) (.string ⟨#[]⟩) (.slice none 0 0)∧Only (fun _=>False) w (((w.alloc (.cells #[v0,v1,v2,v3,v4,v5] 37)).alloc (.cells #[.string e.key,.int .i64 e.page,.int .i64 e.slot] 89)).alloc (.cells #[.int .i64 0,.int .i64 0,.int .i64 0,.int .i64 0,.string ⟨#[]⟩,.slice none 0 0] 37)):=by
  obtain ⟨h1,h2,h3⟩:=pe_new w v0 v1 v2 v3 v4 v5 e
  refine ⟨h1.more (onlyA _ _),h2.more (onlyA _ _),?_,o2 h3 (onlyA _ _)⟩
  have e1:=Pag.new ((w.alloc (.cells #[v0,v1,v2,v3,v4,v5] 37)).alloc (.cells #[.string e.key,.int .i64 e.page,.int .i64 e.slot] 89)) (.int .i64 0) (.int .i64 0) (.int .i64 0) (.int .i64 0) (.string ⟨#[]⟩) (.slice none 0 0)
  rw [World.size_alloc,World.size_alloc] at e1
  exact e1
theorem resSix {w W5 W6:World} {p:Pg} {k:Int} {B cp:Nat} {ao:Option Addr} (hS:Strs W6 B ao p.items) (hF:Fit ao p.items.length cp) (ho:Only (fun _=>False) W5 W6) (hB:0 < p.items.length→W5.heap.size≤B) (hw:Only (fun _=>False) w W5) (rb:Nat) (h1:w.heap.size≤rb) (h2:rb < W5.heap.size) (v0 v1 v2 v3 v4 v5:Value) :
    Res w ((((((W6.setCell ⟨rb,0,none⟩ v0).setCell ⟨rb,1,none⟩ v1).setCell ⟨rb,2,none⟩ v2).setCell ⟨rb,3,none⟩ v3).setCell ⟨rb,4,none⟩ v4).setCell ⟨rb,5,none⟩ v5) (.returned (.tuple #[.agg #[.int .i64 p.lsn,.int .i64 p.kind,.int .i64 p.level,.int .i64 p.right,.string p.high,.slice ao p.items.length cp],.int .i64 k])) p k:=by
  have h6:=Only.six W6 rb v0 v1 v2 v3 v4 v5
  exact ⟨B,ao,cp,rfl,hS.kept h6 (fun h=>by have:=hB h; omega),hF,(o2 hw ho).trans h6 (fun i hi e=>by omega),fun h=>by have:=hB h; have:=hw.size; omega⟩
theorem resErr {w W:World} {c:Int} (rb:Nat) (hw:Only (fun _=>False) w W) (h1:w.heap.size≤rb):Res w ((((((W.setCell ⟨rb,0,none⟩ (.int .i64 0)).setCell ⟨rb,1,none⟩ (.int .i64 0)).setCell ⟨rb,2,none⟩ (.int .i64 0)).setCell ⟨rb,3,none⟩ (.int .i64 0)).setCell ⟨rb,4,none⟩ (.string ⟨#[]⟩)).setCell ⟨rb,5,none⟩ (.slice none 0 0)) (.returned (.tuple #[.agg #[.int .i64 0,.int .i64 0,.int .i64 0,.int .i64 0,.string ⟨#[]⟩,.slice none 0 0],.int .i64 c])) .none c :=
  Res.none c (hw.trans (Only.six W rb _ _ _ _ _ _) (fun i hi e=>by omega))
def insI (l:List ByteArray) (es:List En) (e:En):List ByteArray:=l.take (plE es e)++e.enc :: l.drop (plE es e)
structure InsQ (w w':World) (x:Ending) (a r:Int) (h:ByteArray) (hi e:En) (l:List ByteArray) (es:List En):Prop where
  bad:(e.ok=false∨byd hi e=true∨e ∈ es)→Res w w' x .none 140
  good:e.ok=true→byd hi e=false→e ∉ es→Or3 w w' x (255 < (insI l es e).length∨512 < 20+h.size+isz (insI l es e)) ⟨a,3,0,r,h,insI l es e⟩
theorem HiIs.size {h:ByteArray} {hi:En} (x:HiIs h hi):h.size≤45:=by
  rcases x with ⟨rfl,_⟩ | ⟨rfl,ho⟩
  · decide
  · have:=lay_len (En.few_ok ho).1
    rw [← bl_len,bl_enc]
    exact this
theorem enc_size {e:En} (h:e.ok=true):e.enc.size≤45:=by
  rw [← bl_len,bl_enc]
  exact lay_len (En.few_ok h).1
set_option maxHeartbeats 3200000 in
theorem insert_ok (w:World) (a r:Int) (h:ByteArray) (hi e:En) (B cp:Nat) (ao:Option Addr) (l:List ByteArray) (es:List En) (hP:Lp w r h hi B ao l es) (hF:Fit ao l.length cp) :
    Calls Tryz.prog 46 #[.agg #[.int .i64 a,.int .i64 3,.int .i64 0,.int .i64 r,.string h,.slice ao l.length cp],e.agg] w fun x w'=>InsQ w w' x a r h hi e l es:=by
  have HX:=hide (ins_new w (.int .i64 a) (.int .i64 3) (.int .i64 0) (.int .i64 r) (.string h) (.slice ao l.length cp) e)
  have HR:=hide ((hP.more HX.out.2.2.2).read a cp)
  have HIE:Hid (∀ W,Calls Tryz.prog 84 #[.agg #[.string e.key,.int .i64 e.page,.int .i64 e.slot]] W fun x w'=>x=.returned (.bool e.ok)∧Only (fun _=>False) W w'):=fun W=>isEntry_any e W
  have HBY:Hid (∀ W (A1 A2:Option Addr) (n1 n2 C1 C2:Nat),Calls Tryz.prog 85 #[.agg #[.slice A1 n1 C1,.slice A2 n2 C2,.string hi.key,.int .i64 hi.page,.int .i64 hi.slot],.agg #[.string e.key,.int .i64 e.page,.int .i64 e.slot]] W fun x w'=>x=.returned (.bool (byd hi e))∧Only (fun _=>False) W w'):=fun W A1 A2 n1 n2 C1 C2=>isBeyond_any W A1 A2 n1 n2 C1 C2 hi e
  have HPL:Hid (∀ (W:World) (A1 A2:Option Addr) (n1 n2 C1 C2:Nat) (base:Nat),Ets W base (.slice A1 n1 C1) es→Calls Tryz.prog 86 #[.agg #[.slice A1 n1 C1,.slice A2 n2 C2,.string hi.key,.int .i64 hi.page,.int .i64 hi.slot],.agg #[.string e.key,.int .i64 e.page,.int .i64 e.slot]] W fun x w'=>x=.returned (.tuple #[.int .i64 (plE es e:Int),.bool (decide (e ∈ es))])∧Only (fun _=>False) W w'):=fun W A1 A2 n1 n2 C1 C2 base hE=>by
    obtain ⟨B1,hels,hln⟩:=hE.elsOf
    exact place_any W B1 n1 C1 A1 A2 n2 C2 hi es e hels hln (by have:=hP.len; omega) hP.lf.rise
  have HLD:Hid (e.ok=true→∀ W,Calls Tryz.prog 88 #[.agg #[.string e.key,.int .i64 e.page,.int .i64 e.slot],.slice none 0 0] W fun x w'=>x=.returned (.string e.enc)∧Only (fun _=>False) W w'):=fun he W=>laid_one e W (En.few_ok he)
  have HPT:Hid (e.ok=true→∀ W,Only (fun _=>False) w W→Calls Tryz.prog 87 #[.agg #[.int .i64 a,.int .i64 3,.int .i64 0,.int .i64 r,.string h,.slice ao l.length cp],.int .i64 (plE es e:Int),.string e.enc] W fun x w'=>∃ p k,Res W w' x p k∧(((255 < (insI l es e).length∨512 < 20+h.size+isz (insI l es e))∧p=.none∧k=3)∨(¬ (255 < (insI l es e).length∨512 < 20+h.size+isz (insI l es e))∧p=⟨a,3,0,r,h,insI l es e⟩∧k=0))):=fun he W ho=>
    (put_any W a 3 0 r h B cp ao l (plE es e) e.enc (hP.strs.more ho) hF (by have:=hP.high.size; omega) (by have:=enc_size he; omega) (by have:=plE_le es e; have:=hP.lf.len; omega) (by have:=hP.few; omega)).mono (fun x w' hq=>hq.any)
  clear hP hF
  obtain ⟨K,hK⟩:∃ K:Int,(plE es e:Int)=K:=⟨_,rfl⟩
  obtain ⟨O,hO⟩:=exq (e.ok)
  obtain ⟨Y,hY⟩:=exq (byd hi e)
  obtain ⟨D,hD⟩:=exq (decide (e ∈ es))
  obtain ⟨E,hE⟩:=exq (e.enc)
  rw [hK,hD] at HPL
  rw [hO] at HIE HLD HPT
  rw [hY] at HBY
  rw [hE] at HLD
  rw [hK,hE] at HPT
  have HOY:=hide (And.intro hO (And.intro hY hD))
  clear hK hO hY hD hE
  unfold En.agg
  go_enter Tryz.func46,Tryz.ntmps46
  go_upto_region 1 with fail
  obtain ⟨W0,hW0⟩:=exq (((w.alloc (.cells #[.int .i64 a,.int .i64 3,.int .i64 0,.int .i64 r,.string h,.slice ao l.length cp] 37)).alloc (.cells #[.string e.key,.int .i64 e.page,.int .i64 e.slot] 89)).alloc (.cells #[.int .i64 0,.int .i64 0,.int .i64 0,.int .i64 0,.string ⟨#[]⟩,.slice none 0 0] 37))
  rw [hW0] at HX HR ⊢
  clear hW0
  obtain ⟨p0,p1,p2,p3,p4,p5,_⟩:=HX.out.1
  go_wp2_with fail
  refine HR.out.mono ?_
  rintro x w1 ⟨A,C,rfl,he,ho⟩
  unfold cvv
  have HP1:=hide (HX.out.1.more ho)
  have HV1:=hide (HX.out.2.1.more ho)
  have HQ1:=hide (HX.out.2.2.1.more ho)
  have HO1:=hide (o2 HX.out.2.2.2 ho)
  have HE1:=hide he
  clear he ho p0 p1 p2 p3 p4 p5 HR HX
  go_upto_region 2 with fail
  have HA:=hide (onlyA w1 (.cells #[.slice A es.length C,.slice none 0 0,.string hi.key,.int .i64 hi.page,.int .i64 hi.slot] 164))
  have HC:=hide (Cv.new w1 (.slice A es.length C) (.slice none 0 0) hi)
  obtain ⟨cb,hcb⟩:=exq (w1.heap.size)
  rw [hcb] at HC ⊢
  clear hcb
  obtain ⟨w2,hw2⟩:=exq (w1.alloc (.cells #[.slice A es.length C,.slice none 0 0,.string hi.key,.int .i64 hi.page,.int .i64 hi.slot] 164))
  rw [hw2] at HA HC ⊢
  clear hw2
  have HP2:=hide (HP1.out.more HA.out)
  have HV2:=hide (HV1.out.more HA.out)
  have HQ2:=hide (HQ1.out.more HA.out)
  have HO2:=hide (o2 HO1.out HA.out)
  have HE2:=hide (HE1.out.more HA.out)
  clear HA HP1 HV1 HQ1 HO1 HE1
  obtain ⟨d0,d1,d2,_⟩:=HV2.out
  go_wp2_with fail
  refine (HIE.out _).mono ?_
  rintro x w3 ⟨rfl,ho⟩
  have HP3:=hide (HP2.out.more ho)
  have HV3:=hide (HV2.out.more ho)
  have HQ3:=hide (HQ2.out.more ho)
  have HC3:=hide (HC.out.more ho)
  have HO3:=hide (o2 HO2.out ho)
  have HE3:=hide (HE2.out.more ho)
  clear ho d0 d1 d2 HP2 HV2 HQ2 HC HO2 HE2
  cases O with
  | false=>
    clear HLD HPT HPL
    obtain ⟨q0,q1,q2,q3,q4,q5,g0,g1,g2,g3,g4,g5,ql⟩:=HQ3.out
    go_wp2_with fail
    refine bodyPost_ret (results_page rfl rfl (Pag.six HQ3.out _ _ _ _ _ _)) rfl ?_
    exact ⟨fun _=>resErr _ HO3.out (by omega),fun h1=>by rw [HOY.out.1] at h1; cases h1⟩
  | true=>
    have HLD0:=hide (HLD.out rfl)
    have HPT0:=hide (HPT.out rfl)
    clear HLD HPT
    obtain ⟨d0,d1,d2,_⟩:=HV3.out
    obtain ⟨q0,q1,q2,q3,q4,_⟩:=HC3.out
    go_wp2_with fail
    refine (HBY.out _ _ _ _ _ _ _).mono ?_
    rintro x w4 ⟨rfl,ho⟩
    have HP4:=hide (HP3.out.more ho)
    have HV4:=hide (HV3.out.more ho)
    have HQ4:=hide (HQ3.out.more ho)
    have HC4:=hide (HC3.out.more ho)
    have HO4:=hide (o2 HO3.out ho)
    have HE4:=hide (HE3.out.more ho)
    clear ho d0 d1 d2 q0 q1 q2 q3 q4 HP3 HV3 HQ3 HC3 HO3 HE3
    cases Y with
    | true=>
      clear HPL HLD0 HPT0
      obtain ⟨q0,q1,q2,q3,q4,q5,g0,g1,g2,g3,g4,g5,ql⟩:=HQ4.out
      go_wp2_with fail
      refine bodyPost_ret (results_page rfl rfl (Pag.six HQ4.out _ _ _ _ _ _)) rfl ?_
      exact ⟨fun _=>resErr _ HO4.out (by omega),fun _ h1=>by rw [HOY.out.2.1] at h1; cases h1⟩
    | false=>
      obtain ⟨d0,d1,d2,_⟩:=HV4.out
      obtain ⟨q0,q1,q2,q3,q4,_⟩:=HC4.out
      have HPL1:=hide (HPL.out w4 A none es.length 0 C 0 _ HE4.out)
      clear HPL
      go_wp2_with fail
      refine HPL1.out.mono ?_
      rintro x w5 ⟨rfl,ho⟩
      have HP5:=hide (HP4.out.more ho)
      have HV5:=hide (HV4.out.more ho)
      have HQ5:=hide (HQ4.out.more ho)
      have HO5:=hide (o2 HO4.out ho)
      clear ho d0 d1 d2 q0 q1 q2 q3 q4 HP4 HV4 HQ4 HC4 HO4 HE4 HPL1
      cases D with
      | true=>
        clear HLD0 HPT0
        obtain ⟨q0,q1,q2,q3,q4,q5,g0,g1,g2,g3,g4,g5,ql⟩:=HQ5.out
        go_wp2_with fail
        refine bodyPost_ret (results_page rfl rfl (Pag.six HQ5.out _ _ _ _ _ _)) rfl ?_
        exact ⟨fun _=>resErr _ HO5.out (by omega),fun _ _ h1=>absurd (of_decide_eq_true HOY.out.2.2) h1⟩
      | false=>
        go_upto_region 7 with fail
        -- {r7
        refine wp_region_noPanic ?_
        refine wp_region_held_drew (S:=fun W=>Only (fun k=>k=w.heap.size+1+1) w5 W) (by kernel_rfl) (Only.drew _ _) (fun hHeld=>?_)
        refine tkQ 0 (.agg #[.int .i64 a,.int .i64 3,.int .i64 0,.int .i64 r,.string h,.slice ao l.length cp]) rfl (yieldsIf_load_page (by rfl) _ rfl _ rfl (fun W hW=>HP5.out.kept hW (by omega))) ?_
        refine tkP 1 (.int .i64 K) rfl ?_
        refine tkQ 2 (.agg #[.string e.key,.int .i64 e.page,.int .i64 e.slot]) rfl (yieldsIf_load_ev (by rfl) _ rfl rfl (fun W hW=>HV5.out.kept hW (by omega))) ?_
        refine rd1 3 rfl (fun K hK=>?_)
        go_simp
        refine (HLD0.out _).mono ?_
        rintro x x1 ⟨rfl,hx1⟩
        have HX1:=hide (o2 (Only.drew _ w5) hx1)
        clear hx1
        refine hK.out _ _ (HX1.out.mono (fun _ _ h=>h.elim)) (fun hHeld=>?_)
        clear hK K
        try simp only [Act.put,lsA,lsB,lsC]
        refine rd1 4 rfl (fun K hK=>?_)
        go_simp
        refine (HPT0.out _ (o2 HO5.out HX1.out)).mono ?_
        rintro x x2 ⟨p,k,⟨B5,ao5,cp5,rfl,hS5,hF5,ho5,hB5⟩,hpk⟩
        have HX2:=hide ho5
        have HS7:=hide (And.intro hS5 (And.intro hF5 hB5))
        have HPK:=hide hpk
        have HQ7:=hide (HQ5.out.more (o2 HX1.out HX2.out))
        have HZ7:Hid (w.heap.size+1+1 < x1.heap.size):=(HQ5.out.more HX1.out).lt
        obtain ⟨q0,q1,q2,q3,q4,q5,g0,g1,g2,g3,g4,g5,ql⟩:=HQ7.out
        clear hS5 hF5 ho5 hB5 hpk
        refine hK.out _ _ ((o2 HX1.out HX2.out).mono (fun _ _ h=>h.elim)) (fun hHeld=>?_)
        clear hK K
        try simp only [Act.put,lsA,lsB,lsC]
        refine tkP 5 (.agg #[.int .i64 p.lsn,.int .i64 p.kind,.int .i64 p.level,.int .i64 p.right,.string p.high,.slice ao5 p.items.length cp5]) rfl ?_
        refine tkP 6 (.int .i64 k) rfl ?_
        refine rd1 7 rfl (fun K hK=>?_)
        go_simp
        refine hK.out _ _ (((o2 HX1.out HX2.out).mono (fun _ _ h=>h.elim)).trans (Only.six x2 (w.heap.size+1+1) _ _ _ _ _ _) (fun _ _ h=>h)) (fun hHeld=>?_)
        clear hK K
        try simp only [Act.put,lsA,lsB,lsC]
        refine tkP 8 (.int .i64 k) rfl ?_
        refine dnN ?_
        -- r7}
        go_wp2_with fail
        refine bodyPost_ret (results_page rfl rfl (Pag.six HQ7.out _ _ _ _ _ _)) rfl ?_
        have hres:=resSix (k:=k) HS7.out.1 HS7.out.2.1 HX2.out HS7.out.2.2 (o2 HO5.out HX1.out) (w.heap.size+1+1) (by omega) HZ7.out (.int .i64 p.lsn) (.int .i64 p.kind) (.int .i64 p.level) (.int .i64 p.right) (.string p.high) (.slice ao5 p.items.length cp5)
        refine ⟨fun h1=>?_,fun _ _ _=>?_⟩
        · exfalso
          rcases h1 with h1 | h1 | h1
          · rw [HOY.out.1] at h1; cases h1
          · rw [HOY.out.2.1] at h1; cases h1
          · exact of_decide_eq_false HOY.out.2.2 h1
        · rcases HPK.out with ⟨hc,e1,e2⟩ | ⟨hc,e1,e2⟩
          · subst e1 e2
            exact Or3.yes hc hres
          · subst e1 e2
            exact Or3.no hc hres
theorem results_page1 {fn:Func} {p:Tmp} (h:fn.results=#[.cell p 37]) {tmps:Array Value} {w:World} {b:Nat} {v0 v1 v2 v3 v4 v5:Value} (hp:tmps.getD p undef=.pointer (some ⟨b,0,none⟩)) (hP:Pag w b v0 v1 v2 v3 v4 v5) :
    (results fn tmps).run Tryz.prog w=.ok (.agg #[v0,v1,v2,v3,v4,v5]) w:=by
  have e:(asAddr (.pointer (some ⟨b,0,none⟩))).run Tryz.prog w=.ok ⟨b,0,none⟩ w:=rfl
  have hp':tmps[p]?.getD undef=.pointer (some ⟨b,0,none⟩):=by simpa using hp
  simp only [results,h]
  simp [Sem.run_bind,Result.andThen,hp',e,load_page hP]
theorem leaf_any (w:World):Calls Tryz.prog 44 #[] w fun x w'=>x=.returned (.agg #[.int .i64 0,.int .i64 3,.int .i64 0,.int .i64 0,.string ⟨#[]⟩,.slice none 0 0])∧Only (fun _=>False) w w':=by
  have HP:=hide (Pag.new w (.int .i64 0) (.int .i64 3) (.int .i64 0) (.int .i64 0) (.string ⟨#[]⟩) (.slice none 0 0))
  have HO:=hide (onlyA w (.cells #[.int .i64 0,.int .i64 3,.int .i64 0,.int .i64 0,.string ⟨#[]⟩,.slice none 0 0] 37))
  go_enter Tryz.func44,Tryz.ntmps44
  go_wp2_with fail
  refine bodyPost_ret (results_page1 rfl rfl HP.out) rfl ?_
  exact ⟨rfl,HO.out⟩
end Go.Proofs.YtajjakljheafjaaGreat
