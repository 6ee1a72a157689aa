/- Parts. -/
import Derived.Test.YtipkeeobmihogaaGreatK17
set_option maxRecDepth 100000
namespace Go.Proofs.YtipkeeobmihogaaGreat
open Go.RowKit
def brd (v:Nat) (s:ByteArray):Option (En × Int):=if v=0 then (decE (bl s)).map (fun e=>(e,0)) else decS (bl s)
theorem outS_map (o:Option En):outS (o.map (fun e=>(e,0)))=.tuple #[(o.getD noE).agg,.int .i64 0,.int .i64 (if o.isSome then 0 else 140)]:=by cases o <;> rfl
set_option maxHeartbeats 800000 in
theorem bread_any (v:Nat) (s:ByteArray) (w:World):Calls Tryz.prog 13 #[.int .i64 v,.string s] w fun x w'=>x=.returned (outS (brd v s))∧Only (fun _=>False) w w':=by
  have HR:=hide (Ev.zero w)
  have HO:=hide (onlyA w (.cells #[.string ⟨#[]⟩,.int .i64 0,.int .i64 0] 41))
  have HD:=hide (fun W=>decode_any s W)
  have HU:=hide (fun W=>unsep_any s W)
  unfold brd
  obtain ⟨W0,hW0⟩:=exq (w.alloc (.cells #[.string ⟨#[]⟩,.int .i64 0,.int .i64 0] 41))
  rw [hW0] at HR HO
  by_cases hv:v=0
  · rw [if_pos hv,outS_map,hv,Int.ofNat_zero]
    unfold outE at HD
    obtain ⟨E,hE⟩:=exq ((decE (bl s)).getD noE)
    obtain ⟨K,hK⟩:∃ K:Int,(if (decE (bl s)).isSome=true then 0 else 140)=K:=⟨_,rfl⟩
    rw [hE,hK] at HD ⊢
    clear hE hK hv
    unfold En.agg at HD ⊢
    go_enter Tryz.func13,Tryz.ntmps13
    go_upto_region 1 with fail
    clear hW0
    go_wp2_with fail
    refine (HD.out _).mono ?_
    rintro x w1 ⟨rfl,ho⟩
    have HR1:=hide (HR.out.more ho)
    have HO1:=hide (o2 HO.out ho)
    have HB:Hid (w.heap.size < W0.heap.size):=HR.out.lt
    have HZ:=hide ho.size
    clear ho HR HO HD HU
    go_upto_region 3 with fail
    have HA:=hide (onlyA w1 (.cells #[.string E.key,.int .i64 E.page,.int .i64 E.slot] 41))
    have HC:=hide (Ev.new w1 E)
    obtain ⟨cb,hcb⟩:=exq (w1.heap.size)
    rw [hcb] at HC ⊢
    clear hcb
    obtain ⟨w2,hw2⟩:=exq (w1.alloc (.cells #[.string E.key,.int .i64 E.page,.int .i64 E.slot] 41))
    rw [hw2] at HA HC ⊢
    clear hw2
    have HR2:=hide (HR1.out.more HA.out)
    have HO2:=hide (o2 HO1.out HA.out)
    clear HA HR1 HO1
    obtain ⟨c0,c1,c2,_⟩:=HC.out
    obtain ⟨r0,r1,r2,f0,f1,f2,_⟩:=HR2.out
    go_wp2_with fail
    refine bodyPost_ret (results_ev3 rfl rfl (HR2.out.all E)) rfl ?_
    exact ⟨rfl,HO2.out.trans (Only.three _ _ _ _ _) (fun i hi e=>by omega)⟩
  · have hv0:¬ (v:Int)=0:=by omega
    rw [if_neg hv]
    obtain ⟨V,hV⟩:=exq ((v:Int))
    rw [hV] at hv0 ⊢
    clear hV hv
    unfold outS at HU ⊢
    obtain ⟨E,hE⟩:=exq (((decS (bl s)).getD (noE,0)).1)
    obtain ⟨C,hC⟩:=exq (((decS (bl s)).getD (noE,0)).2)
    obtain ⟨K,hK⟩:∃ K:Int,(if (decS (bl s)).isSome=true then 0 else 140)=K:=⟨_,rfl⟩
    rw [hE,hC,hK] at HU ⊢
    clear hE hC hK
    unfold En.agg at HU ⊢
    go_enter Tryz.func13,Tryz.ntmps13
    go_upto_region 1 with fail
    clear hW0
    go_wp2_with fail
    refine (HU.out _).mono ?_
    rintro x w1 ⟨rfl,ho⟩
    have HR1:=hide (HR.out.more ho)
    have HO1:=hide (o2 HO.out ho)
    clear ho HR HO HD HU
    obtain ⟨r0,r1,r2,f0,f1,f2,_⟩:=HR1.out
    go_wp2_with fail
    refine bodyPost_ret (results_ev3 rfl rfl (HR1.out.all E)) rfl ?_
    exact ⟨rfl,HO1.out.trans (Only.three _ _ _ _ _) (fun i hi e=>by omega)⟩
theorem containsE_any (w:World) (B n C:Nat) (A:Option Addr) (es:List En) (e:En) (hE:Els w B A es) (hn:es.length=n) (hl:n≤1048576) (hr:Rise es) :
    Calls Tryz.prog 37 #[.slice A n C,e.agg] w fun x w'=>x=.returned (.bool (decide (e ∈ es)))∧Only (fun _=>False) w w':=by
  have HV:=hide (Ev.new w e)
  have HO:=hide (onlyA w (.cells #[.string e.key,.int .i64 e.page,.int .i64 e.slot] 41))
  have HI:Hid (∀ W,Only (fun _=>False) w W→Calls Tryz.prog 82 #[.slice A n C,.agg #[.string e.key,.int .i64 e.page,.int .i64 e.slot]] W fun x w'=>x=.returned (.int .i64 (idxE es e))∧Only (fun _=>False) W w'):=fun W ho=>indexE_any W B n C A es e (hE.kept ho (fun _ h=>h)) hn (by omega) hr
  have HD:Hid (decide (0≤idxE es e)=decide (e ∈ es)):=by
    unfold Hid idxE
    by_cases k:e ∈ es
    · rw [if_pos k,decide_eq_true k,decide_eq_true (by omega)]
    · rw [if_neg k,decide_eq_false k]; decide
  clear hE hn hl hr
  obtain ⟨I,hI⟩:=exq (idxE es e)
  rw [hI] at HI HD
  rw [← HD.out]
  clear hI HD
  unfold En.agg
  go_enter Tryz.func37,Tryz.ntmps37
  go_upto_region 1 with fail
  obtain ⟨W0,hW0⟩:=exq (w.alloc (.cells #[.string e.key,.int .i64 e.page,.int .i64 e.slot] 41))
  rw [hW0] at HV HO ⊢
  clear hW0
  obtain ⟨d0,d1,d2,_⟩:=HV.out
  go_wp2_with fail
  refine (HI.out _ HO.out).mono ?_
  rintro x w1 ⟨rfl,ho⟩
  have HO1:=hide (o2 HO.out ho)
  clear ho
  go_wp2_with fail
  go_ret
  exact ⟨rfl,HO1.out⟩
theorem neqE_run (a b:En) (w:World):(binOp .neq 41 (.agg #[.string a.key,.int .i64 a.page,.int .i64 a.slot]) (.agg #[.string b.key,.int .i64 b.page,.int .i64 b.slot])).run Tryz.prog w=.ok (.bool (!decide (a=b))) w:=by
  obtain ⟨k,p,s⟩:=a
  obtain ⟨k',p',s'⟩:=b
  by_cases h1:k=k'
  · by_cases h2:p=p'
    · by_cases h3:s=s'
      · subst h1 h2 h3
        simp [go_sem]
      · simp [go_sem,h1,h2,h3]
    · simp [go_sem,h1,h2]
  · have h4:=ba_neN h1
    have h5:¬ k.toList=k'.toList:=by simpa using h4
    simp [go_sem,h1,h5]
def Nd.std (X:Nd) (e:En):Bool:=decide ((X.lv=0∨e≠noE)∧e ∈ X.es)
set_option maxHeartbeats 1600000 in
theorem stands_nd (w:World) (a:Int) (X:Nd) (e:En) (B cp:Nat) (ao:Option Addr) (hP:Nm w X B ao) :
    Calls Tryz.prog 14 #[.agg #[.int .i64 a,.int .i64 3,.int .i64 X.lv,.int .i64 X.rt,.string (hiB X.hi),.slice ao X.items.length cp],e.agg] w fun x w'=>x=.returned (.bool (X.std e))∧Only (fun _=>False) w w':=by
  have HX:=hide (pe_new w (.int .i64 a) (.int .i64 3) (.int .i64 X.lv) (.int .i64 X.rt) (.string (hiB X.hi)) (.slice ao X.items.length cp) e)
  have HCT:Hid (∀ (W W':World) (A:Option Addr) (n C base:Nat),Ets W base (.slice A n C) X.es→Only (fun _=>False) W W'→Calls Tryz.prog 37 #[.slice A n C,.agg #[.string e.key,.int .i64 e.page,.int .i64 e.slot]] W' fun x w'=>x=.returned (.bool (decide (e ∈ X.es)))∧Only (fun _=>False) W' w'):=fun W W' A n C base hE ho=>by
    obtain ⟨B1,hels,hln⟩:=hE.elsOf
    obtain ⟨lo,hk⟩:=hP.ok
    exact containsE_any W' B1 n C A X.es e (hels.kept ho (fun _ h=>h)) hln (by have:=hP.few; rw [Nd.es_len] at hln; omega) hk.rise
  rcases Nat.eq_zero_or_pos X.lv with v | v
  · have HR:=hide (entries_ok _ a X.rt (hiB X.hi) X.hi B cp ao X.items X.es ((hP.more HX.out.2.2).lp v))
    have HS:Hid (X.std e=decide (e ∈ X.es)):=by
      unfold Hid Nd.std
      exact decide_eq_decide.2 ⟨fun k=>k.2,fun k=>⟨.inl v,k⟩⟩
    rw [HS.out]
    rw [v] at HX HR ⊢
    rw [Int.ofNat_zero] at HX HR ⊢
    clear hP HS
    obtain ⟨D,hD⟩:=exq (decide (e ∈ X.es))
    obtain ⟨R,hR⟩:=exq ((X.rt:Int))
    obtain ⟨h,hh⟩:=exq (hiB X.hi)
    obtain ⟨n,hn⟩:=exq (X.items.length)
    obtain ⟨m,hm⟩:=exq (X.es.length)
    rw [hR,hh,hn] at HX HR ⊢
    rw [hD] at HCT ⊢
    unfold EnR at HR
    rw [hm] at HR
    unfold En.agg
    clear hR hh hn hD hm
    go_enter Tryz.func14,Tryz.ntmps14
    go_upto_region 1 with fail
    obtain ⟨W0,hW0⟩:=exq ((w.alloc (.cells #[.int .i64 a,.int .i64 3,.int .i64 0,.int .i64 R,.string h,.slice ao n cp] 24)).alloc (.cells #[.string e.key,.int .i64 e.page,.int .i64 e.slot] 41))
    rw [hW0] at HX HR ⊢
    clear hW0
    obtain ⟨p0,p1,p2,p3,p4,p5,_⟩:=HX.out.1
    go_wp2_with fail
    refine HR.out.mono ?_
    rintro x w1 ⟨A,C,rfl,he,ho⟩
    have HV1:=hide (HX.out.2.1.more ho)
    have HO1:=hide (o2 HX.out.2.2 ho)
    have HE1:=hide he
    clear he ho p0 p1 p2 p3 p4 p5 HR HX
    obtain ⟨d0,d1,d2,_⟩:=HV1.out
    go_wp2_with fail
    refine (HCT.out _ _ _ _ _ _ HE1.out (Only.refl _ _)).mono ?_
    rintro x w2 ⟨rfl,ho⟩
    have HO2:=hide (o2 HO1.out ho)
    clear ho
    go_wp2_with fail
    go_ret
    exact ⟨rfl,HO2.out⟩
  · have HR:=hide (kids_ok _ a X.lv X.rt (hiB X.hi) X.hi B cp ao X.items X.ks ((hP.more HX.out.2.2).ip v))
    have HS:Hid (X.std e=(!decide (e=noE) && decide (e ∈ X.es))):=by
      unfold Hid Nd.std
      by_cases k:e=noE
      · rw [decide_eq_false (by rintro ⟨q | q,_⟩; omega; exact q k)]; simp [k]
      · by_cases q:e ∈ X.es
        · rw [decide_eq_true ⟨.inr k,q⟩]; simp [k,q]
        · rw [decide_eq_false (fun z=>q z.2)]; simp [q]
    rw [HS.out]
    have hv0:¬ (X.lv:Int)=0:=by omega
    have hq:∀ W:World,(binOp .neq 41 (.agg #[.string e.key,.int .i64 e.page,.int .i64 e.slot]) (.agg #[.string ⟨#[]⟩,.int .i64 0,.int .i64 0])).run Tryz.prog W=.ok (.bool (!decide (e=noE))) W:=fun W=>neqE_run e noE W
    clear hP HS
    obtain ⟨D,hD⟩:=exq (decide (e ∈ X.es))
    obtain ⟨Z,hZ⟩:=exq (decide (e=noE))
    obtain ⟨L,hL⟩:=exq ((X.lv:Int))
    obtain ⟨R,hR⟩:=exq ((X.rt:Int))
    obtain ⟨h,hh⟩:=exq (hiB X.hi)
    obtain ⟨n,hn⟩:=exq (X.items.length)
    rw [hL,hR,hh,hn] at HX HR ⊢
    rw [hL] at hv0
    rw [hD] at HCT ⊢
    rw [hZ] at hq ⊢
    clear hL hR hh hn hD hZ
    unfold En.agg
    go_enter Tryz.func14,Tryz.ntmps14
    go_upto_region 1 with fail
    obtain ⟨W0,hW0⟩:=exq ((w.alloc (.cells #[.int .i64 a,.int .i64 3,.int .i64 L,.int .i64 R,.string h,.slice ao n cp] 24)).alloc (.cells #[.string e.key,.int .i64 e.page,.int .i64 e.slot] 41))
    rw [hW0] at HX HR ⊢
    clear hW0
    obtain ⟨p0,p1,p2,p3,p4,p5,_⟩:=HX.out.1
    go_wp2_with fail
    refine HR.out.mono ?_
    rintro x w1 ⟨A,C,A2,C2,rfl,he,hk,ho⟩
    have HV1:=hide (HX.out.2.1.more ho)
    have HO1:=hide (o2 HX.out.2.2 ho)
    have HE1:Hid (Ets w1 W0.heap.size (.slice A X.ks.length C) X.es):=he
    clear he hk ho p0 p1 p2 p3 p4 p5 HR HX
    obtain ⟨d0,d1,d2,_⟩:=HV1.out
    cases Z with
    | true=>
      go_wp2_with fail
      go_ret
      exact ⟨rfl,HO1.out⟩
    | false=>
      go_wp2_with fail
      refine (HCT.out _ _ _ _ _ _ HE1.out (Only.refl _ _)).mono ?_
      rintro x w2 ⟨rfl,ho⟩
      have HO2:=hide (o2 HO1.out ho)
      clear ho
      go_wp2_with fail
      go_ret
      exact ⟨by simp,HO2.out⟩
def Nd.bad (X:Nd) (e:En):Prop:=e.ok=false∨e ∈ X.es∨(X.lv=0∧byd X.hi e=true)∨(0 < X.lv∧blw X.hi e=false)
instance (X:Nd) (e:En):Decidable (X.bad e):=by unfold Nd.bad; infer_instance
def WiQ (w w':World) (x:Ending) (a:Int) (X:Nd):Option (En × Int)→Prop
  | none=>Res w w' x .none 140
  | some k=>(X.bad k.1→Res w w' x .none 140)∧(¬ X.bad k.1→Or3 w w' x (512 < (X.ins k.1 k.2).size) ((X.ins k.1 k.2).pg a))
theorem wi_new (w:World) (v0 v1 v2 v3 v4 v5:Value):Pag ((w.alloc (.cells #[v0,v1,v2,v3,v4,v5] 24)).alloc (.cells #[.int .i64 0,.int .i64 0,.int .i64 0,.int .i64 0,.string ⟨#[]⟩,.slice none 0 0] 24)) w.heap.size v0 v1 v2 v3 v4 v5∧Pag ((w.alloc (.cells #[v0,v1,v2,v3,v4,v5] 24)).alloc (.cells #[.int .i64 0,.int .i64 0,.int .i64 0,.int .i64 0,.string ⟨#[]⟩,.slice none 0 0] 24)) (w.heap.size+1) (.int .i64 0) (.int .i64 0) (.int .i64 0) (.int .i64 0) (.string ⟨#[]⟩) (.slice none 0 0)∧Only (fun _=>False) w ((w.alloc (.cells #[v0,v1,v2,v3,v4,v5] 24)).alloc (.cells #[.int .i64 0,.int .i64 0,.int .i64 0,.int .i64 0,.string ⟨#[]⟩,.slice none 0 0] 24)):=by
  refine ⟨(Pag.new w v0 v1 v2 v3 v4 v5).more (onlyA _ _),?_,o2 (onlyA _ _) (onlyA _ _)⟩
  have e1:=Pag.new (w.alloc (.cells #[v0,v1,v2,v3,v4,v5] 24)) (.int .i64 0) (.int .i64 0) (.int .i64 0) (.int .i64 0) (.string ⟨#[]⟩) (.slice none 0 0)
  rw [World.size_alloc] at e1
  exact e1
theorem InsQ.wi {w w':World} {x:Ending} {a:Int} {X:Nd} {e:En} {c:Int} (hv:X.lv=0) (hf:X.ks.length≤82) (q:InsQ w w' x a X.rt (hiB X.hi) X.hi e X.items X.es):(X.bad e→Res w w' x .none 140)∧(¬ X.bad e→Or3 w w' x (512 < (X.ins e c).size) ((X.ins e c).pg a)):=by
  refine ⟨fun b=>q.bad ?_,fun b=>?_⟩
  · rcases b with b | b | b | b
    · exact .inl b
    · exact .inr (.inr b)
    · exact .inr (.inl b.2)
    · exact absurd hv (by omega)
  · have h1:e.ok=true:=by
      cases k:e.ok
      · exact absurd (.inl k) b
      · rfl
    have h2:byd X.hi e=false:=by
      cases k:byd X.hi e
      · rfl
      · exact absurd (.inr (.inr (.inl ⟨hv,k⟩))) b
    have g:=q.good h1 h2 (fun k=>b (.inr (.inl k)))
    have ei:insI X.items X.es e=(X.ins e c).items:=by
      rw [Nd.ins_items]
      unfold insI itB
      rw [if_pos hv]
    have el:(X.ins e c).items.length=X.ks.length+1:=by rw [Nd.items_len]; exact insK_len _ _ _
    rw [ei] at g
    have es:(255 < (X.ins e c).items.length∨512 < 20+(hiB X.hi).size+isz (X.ins e c).items) ↔ 512 < (X.ins e c).size:=by
      unfold Nd.size
      show _ ↔ 512 < 20+(hiB X.hi).size+_
      omega
    have ep:(⟨a,3,0,X.rt,hiB X.hi,(X.ins e c).items⟩:Pg)=(X.ins e c).pg a:=by
      show _=(⟨a,3,((X.lv:Nat):Int),X.rt,hiB X.hi,(X.ins e c).items⟩:Pg)
      rw [hv]; rfl
    rw [ep] at g
    exact ⟨fun z=>g.1 (es.2 z),fun z=>g.2 (fun y=>z (es.1 y))⟩
theorem PosQ.wi {w w':World} {x:Ending} {a:Int} {X:Nd} {e:En} {c:Int} (hv:0 < X.lv) (hf:X.ks.length≤82) (hc:okC c=true) (q:PosQ w w' x a X.lv X.rt (hiB X.hi) X.hi e c X.items X.ks):(X.bad e→Res w w' x .none 140)∧(¬ X.bad e→Or3 w w' x (512 < (X.ins e c).size) ((X.ins e c).pg a)):=by
  refine ⟨fun b=>q.bad ?_,fun b=>?_⟩
  · rcases b with b | b | b | b
    · exact .inl b
    · exact .inr (.inr (.inr b))
    · exact absurd b.1 (by omega)
    · exact .inr (.inl b.2)
  · have h1:e.ok=true:=by
      cases k:e.ok
      · exact absurd (.inl k) b
      · rfl
    have h2:blw X.hi e=true:=by
      cases k:blw X.hi e
      · exact absurd (.inr (.inr (.inr ⟨hv,k⟩))) b
      · rfl
    have g:=q.good h1 h2 hc (fun k=>b (.inr (.inl k)))
    have ei:posI X.items X.ks e c=(X.ins e c).items:=by
      rw [Nd.ins_items]
      unfold posI itB
      rw [if_neg (by omega)]
      rfl
    have el:(X.ins e c).items.length=X.ks.length+1:=by rw [Nd.items_len]; exact insK_len _ _ _
    rw [ei] at g
    have es:(255 < (X.ins e c).items.length∨512 < 20+(hiB X.hi).size+isz (X.ins e c).items) ↔ 512 < (X.ins e c).size:=by
      unfold Nd.size
      show _ ↔ 512 < 20+(hiB X.hi).size+_
      omega
    exact ⟨fun z=>g.1 (es.2 z),fun z=>g.2 (fun y=>z (es.1 y))⟩
theorem Or3.some {w w':World} {x:Ending} {c:Prop} [Decidable c] {P:Pg} (h:Or3 w w' x c P):Res w w' x (if c then .none else P) (if c then 3 else 0):=by
  by_cases k:c
  · rw [if_pos k,if_pos k]; exact h.1 k
  · rw [if_neg k,if_neg k]; exact h.2 k
def Nd.wiP (X:Nd) (a:Int):Option (En × Int)→Pg
  | none=>.none
  | some k=>if X.bad k.1 then .none else if 512 < (X.ins k.1 k.2).size then .none else (X.ins k.1 k.2).pg a
def Nd.wiK (X:Nd):Option (En × Int)→Int
  | none=>140
  | some k=>if X.bad k.1 then 140 else if 512 < (X.ins k.1 k.2).size then 3 else 0
theorem wi_some {w w':World} {x:Ending} {a:Int} {X:Nd} {k:En × Int} (h:(X.bad k.1→Res w w' x .none 140)∧(¬ X.bad k.1→Or3 w w' x (512 < (X.ins k.1 k.2).size) ((X.ins k.1 k.2).pg a))):Res w w' x (X.wiP a (some k)) (X.wiK (some k)):=by
  unfold Nd.wiP Nd.wiK
  simp only []
  by_cases b:X.bad k.1
  · rw [if_pos b,if_pos b]; exact h.1 b
  · rw [if_neg b,if_neg b]; exact (h.2 b).some
set_option maxHeartbeats 3200000 in
theorem with_nd (w:World) (a:Int) (X:Nd) (s:ByteArray) (B cp:Nat) (ao:Option Addr) (hP:Nm w X B ao) (hF:Fit ao X.items.length cp) :
    Calls Tryz.prog 15 #[.agg #[.int .i64 a,.int .i64 3,.int .i64 X.lv,.int .i64 X.rt,.string (hiB X.hi),.slice ao X.items.length cp],.string s] w fun x w'=>Res w w' x (X.wiP a (brd X.lv s)) (X.wiK (brd X.lv s)):=by
  have HX:=hide (wi_new w (.int .i64 a) (.int .i64 3) (.int .i64 X.lv) (.int .i64 X.rt) (.string (hiB X.hi)) (.slice ao X.items.length cp))
  have HB:=hide (fun W=>bread_any X.lv s W)
  cases hb:brd X.lv s with
  | none=>
    rw [hb] at HB
    clear hb hP hF
    have HB2:Hid (∀ W,Calls Tryz.prog 13 #[.int .i64 X.lv,.string s] W fun x w'=>x=.returned (.tuple #[.agg #[.string ⟨#[]⟩,.int .i64 0,.int .i64 0],.int .i64 0,.int .i64 140])∧Only (fun _=>False) W w'):=HB
    clear HB
    show Calls _ _ _ _ fun x w'=>Res w w' x .none 140
    obtain ⟨L,hL⟩:=exq ((X.lv:Int))
    obtain ⟨R,hR⟩:=exq ((X.rt:Int))
    obtain ⟨h,hh⟩:=exq (hiB X.hi)
    obtain ⟨n,hn⟩:=exq (X.items.length)
    rw [hL,hR,hh,hn] at HX ⊢
    rw [hL] at HB2
    clear hL hR hh hn
    go_enter Tryz.func15,Tryz.ntmps15
    go_upto_region 1 with fail
    obtain ⟨W0,hW0⟩:=exq ((w.alloc (.cells #[.int .i64 a,.int .i64 3,.int .i64 L,.int .i64 R,.string h,.slice ao n cp] 24)).alloc (.cells #[.int .i64 0,.int .i64 0,.int .i64 0,.int .i64 0,.string ⟨#[]⟩,.slice none 0 0] 24))
    rw [hW0] at HX ⊢
    clear hW0
    obtain ⟨p0,p1,p2,p3,p4,p5,_⟩:=HX.out.1
    go_wp2_with fail
    refine (HB2.out _).mono ?_
    rintro x w1 ⟨rfl,ho⟩
    have HQ1:=hide (HX.out.2.1.more ho)
    have HO1:=hide (o2 HX.out.2.2 ho)
    clear ho p0 p1 p2 p3 p4 p5 HX HB2
    go_upto_region 2 with fail
    have HA:=hide (onlyA w1 (.cells #[.string ⟨#[]⟩,.int .i64 0,.int .i64 0] 41))
    obtain ⟨w2,hw2⟩:=exq (w1.alloc (.cells #[.string ⟨#[]⟩,.int .i64 0,.int .i64 0] 41))
    rw [hw2] at HA ⊢
    clear hw2
    have HQ2:=hide (HQ1.out.more HA.out)
    have HO2:=hide (o2 HO1.out HA.out)
    clear HA HQ1 HO1
    obtain ⟨q0,q1,q2,q3,q4,q5,g0,g1,g2,g3,g4,g5,ql⟩:=HQ2.out
    go_wp2_with fail
    refine bodyPost_ret (results_page rfl rfl (Pag.six HQ2.out _ _ _ _ _ _)) rfl ?_
    exact resErr _ HO2.out (by omega)
  | some k=>
    obtain ⟨e,c⟩:=k
    rw [hb] at HB
    have HB2:Hid (∀ W,Calls Tryz.prog 13 #[.int .i64 X.lv,.string s] W fun x w'=>x=.returned (.tuple #[.agg #[.string e.key,.int .i64 e.page,.int .i64 e.slot],.int .i64 c,.int .i64 0])∧Only (fun _=>False) W w'):=HB
    clear HB
    have HPT:Hid (X.lv=0→∀ W,Only (fun _=>False) w W→Calls Tryz.prog 39 #[.agg #[.int .i64 a,.int .i64 3,.int .i64 X.lv,.int .i64 X.rt,.string (hiB X.hi),.slice ao X.items.length cp],.agg #[.string e.key,.int .i64 e.page,.int .i64 e.slot]] W fun x w'=>Res W w' x (X.wiP a (some (e,c))) (X.wiK (some (e,c)))):=fun v W ho=>by
      have h:=insert_ok W a X.rt (hiB X.hi) X.hi e B cp ao X.items X.es ((hP.more ho).lp v) hF
      rw [v,Int.ofNat_zero]
      exact h.mono (fun x w' q=>wi_some (k:=(e,c)) (InsQ.wi v hP.few q))
    have HPS:Hid (0 < X.lv→∀ W,Only (fun _=>False) w W→Calls Tryz.prog 40 #[.agg #[.int .i64 a,.int .i64 3,.int .i64 X.lv,.int .i64 X.rt,.string (hiB X.hi),.slice ao X.items.length cp],.agg #[.string e.key,.int .i64 e.page,.int .i64 e.slot],.int .i64 c] W fun x w'=>Res W w' x (X.wiP a (some (e,c))) (X.wiK (some (e,c)))):=fun v W ho=>by
      have hc:okC c=true:=by
        unfold brd at hb
        rw [if_neg (by omega)] at hb
        exact (decS_some hb).2.1
      have h:=post_ok W a X.lv X.rt (hiB X.hi) X.hi e c B cp ao X.items X.ks ((hP.more ho).ip v) hF
      exact h.mono (fun x w' q=>wi_some (k:=(e,c)) (PosQ.wi v hP.few hc q))
    clear hb hP hF
    obtain ⟨P,hP⟩:=exq (X.wiP a (some (e,c)))
    obtain ⟨K,hK⟩:=exq (X.wiK (some (e,c)))
    obtain ⟨R,hR⟩:=exq ((X.rt:Int))
    obtain ⟨h,hh⟩:=exq (hiB X.hi)
    obtain ⟨n,hn⟩:=exq (X.items.length)
    rw [hP,hK] at HPT HPS ⊢
    rw [hR,hh,hn] at HX HPT HPS ⊢
    clear hP hK hR hh hn
    rcases Nat.eq_zero_or_pos X.lv with v | v
    · have HPT1:=hide (HPT.out v)
      rw [v,Int.ofNat_zero] at HPT1 HX HB2 ⊢
      clear v HPT HPS
      go_enter Tryz.func15,Tryz.ntmps15
      go_upto_region 1 with fail
      obtain ⟨W0,hW0⟩:=exq ((w.alloc (.cells #[.int .i64 a,.int .i64 3,.int .i64 0,.int .i64 R,.string h,.slice ao n cp] 24)).alloc (.cells #[.int .i64 0,.int .i64 0,.int .i64 0,.int .i64 0,.string ⟨#[]⟩,.slice none 0 0] 24))
      rw [hW0] at HX ⊢
      clear hW0
      obtain ⟨p0,p1,p2,p3,p4,p5,_⟩:=HX.out.1
      go_wp2_with fail
      refine (HB2.out _).mono ?_
      rintro x w1 ⟨rfl,ho⟩
      have HP1:=hide (HX.out.1.more ho)
      have HQ1:=hide (HX.out.2.1.more ho)
      have HO1:=hide (o2 HX.out.2.2 ho)
      have HZ1:Hid (w.heap.size+1 < W0.heap.size):=HX.out.2.1.lt
      have HZ2:=hide ho.size
      clear ho p0 p1 p2 p3 p4 p5 HX HB2
      go_upto_region 2 with fail
      have HA:=hide (onlyA w1 (.cells #[.string e.key,.int .i64 e.page,.int .i64 e.slot] 41))
      have HV:=hide (Ev.new w1 e)
      obtain ⟨cb,hcb⟩:=exq (w1.heap.size)
      rw [hcb] at HV HZ2 ⊢
      clear hcb
      obtain ⟨w2,hw2⟩:=exq (w1.alloc (.cells #[.string e.key,.int .i64 e.page,.int .i64 e.slot] 41))
      rw [hw2] at HA HV ⊢
      clear hw2
      have HP2:=hide (HP1.out.more HA.out)
      have HQ2:=hide (HQ1.out.more HA.out)
      have HO2:=hide (o2 HO1.out HA.out)
      clear HA HP1 HQ1 HO1
      obtain ⟨p0,p1,p2,p3,p4,p5,_⟩:=HP2.out
      obtain ⟨d0,d1,d2,_⟩:=HV.out
      go_wp2_with fail
      refine (HPT1.out _ HO2.out).mono ?_
      rintro x w4 ⟨B5,ao5,cp5,rfl,hS5,hF5,ho5,hB5⟩
      have HX2:=hide ho5
      have HS7:=hide (And.intro hS5 (And.intro hF5 hB5))
      have HQ7:=hide (HQ2.out.more ho5)
      have HZ7:Hid (w.heap.size+1 < w2.heap.size):=HQ2.out.lt
      clear hS5 hF5 ho5 hB5 p0 p1 p2 p3 p4 p5 d0 d1 d2
      obtain ⟨q0,q1,q2,q3,q4,q5,g0,g1,g2,g3,g4,g5,ql⟩:=HQ7.out
      go_wp2_with fail
      refine bodyPost_ret (results_page rfl rfl (Pag.six HQ7.out _ _ _ _ _ _)) rfl ?_
      exact resSix (p:=P) (k:=K) HS7.out.1 HS7.out.2.1 HX2.out HS7.out.2.2 HO2.out (w.heap.size+1) (by omega) HZ7.out _ _ _ _ _ _
    · have HPT1:=hide (HPS.out v)
      have hv0:¬ (X.lv:Int)=0:=by omega
      obtain ⟨L,hL⟩:=exq ((X.lv:Int))
      rw [hL] at HPT1 HX HB2 hv0 ⊢
      clear v HPT HPS hL
      go_enter Tryz.func15,Tryz.ntmps15
      go_upto_region 1 with fail
      obtain ⟨W0,hW0⟩:=exq ((w.alloc (.cells #[.int .i64 a,.int .i64 3,.int .i64 L,.int .i64 R,.string h,.slice ao n cp] 24)).alloc (.cells #[.int .i64 0,.int .i64 0,.int .i64 0,.int .i64 0,.string ⟨#[]⟩,.slice none 0 0] 24))
      rw [hW0] at HX ⊢
      clear hW0
      obtain ⟨p0,p1,p2,p3,p4,p5,_⟩:=HX.out.1
      go_wp2_with fail
      refine (HB2.out _).mono ?_
      rintro x w1 ⟨rfl,ho⟩
      have HP1:=hide (HX.out.1.more ho)
      have HQ1:=hide (HX.out.2.1.more ho)
      have HO1:=hide (o2 HX.out.2.2 ho)
      clear ho p0 p1 p2 p3 p4 p5 HX HB2
      go_upto_region 2 with fail
      have HA:=hide (onlyA w1 (.cells #[.string e.key,.int .i64 e.page,.int .i64 e.slot] 41))
      have HV:=hide (Ev.new w1 e)
      obtain ⟨cb,hcb⟩:=exq (w1.heap.size)
      rw [hcb] at HV ⊢
      clear hcb
      obtain ⟨w2,hw2⟩:=exq (w1.alloc (.cells #[.string e.key,.int .i64 e.page,.int .i64 e.slot] 41))
      rw [hw2] at HA HV ⊢
      clear hw2
      have HP2:=hide (HP1.out.more HA.out)
      have HQ2:=hide (HQ1.out.more HA.out)
      have HO2:=hide (o2 HO1.out HA.out)
      clear HA HP1 HQ1 HO1
      obtain ⟨p0,p1,p2,p3,p4,p5,_⟩:=HP2.out
      obtain ⟨d0,d1,d2,_⟩:=HV.out
      go_wp2_with fail
      refine (HPT1.out _ HO2.out).mono ?_
      rintro x w4 ⟨B5,ao5,cp5,rfl,hS5,hF5,ho5,hB5⟩
      have HX2:=hide ho5
      have HS7:=hide (And.intro hS5 (And.intro hF5 hB5))
      have HQ7:=hide (HQ2.out.more ho5)
      have HZ7:Hid (w.heap.size+1 < w2.heap.size):=HQ2.out.lt
      clear hS5 hF5 ho5 hB5 p0 p1 p2 p3 p4 p5 d0 d1 d2
      obtain ⟨q0,q1,q2,q3,q4,q5,g0,g1,g2,g3,g4,g5,ql⟩:=HQ7.out
      go_wp2_with fail
      refine bodyPost_ret (results_page rfl rfl (Pag.six HQ7.out _ _ _ _ _ _)) rfl ?_
      exact resSix (p:=P) (k:=K) HS7.out.1 HS7.out.2.1 HX2.out HS7.out.2.2 HO2.out (w.heap.size+1) (by omega) HZ7.out _ _ _ _ _ _
theorem isBeyondB_nd (w:World) (a:Int) (X:Nd) (s:ByteArray) (e:En) (c:Int) (B cp:Nat) (ao:Option Addr) (hP:Nm w X B ao) (hs:brd X.lv s=some (e,c)) (he:e.ok=true) :
    Calls Tryz.prog 51 #[.agg #[.int .i64 a,.int .i64 3,.int .i64 X.lv,.int .i64 X.rt,.string (hiB X.hi),.slice ao X.items.length cp],.string s] w fun x w'=>x=.returned (.bool (byd X.hi e))∧Only (fun _=>False) w w':=by
  have HP:=hide (Pag.new w (.int .i64 a) (.int .i64 3) (.int .i64 X.lv) (.int .i64 X.rt) (.string (hiB X.hi)) (.slice ao X.items.length cp))
  have HO:=hide (onlyA w (.cells #[.int .i64 a,.int .i64 3,.int .i64 X.lv,.int .i64 X.rt,.string (hiB X.hi),.slice ao X.items.length cp] 24))
  have HB2:Hid (∀ W,Calls Tryz.prog 13 #[.int .i64 X.lv,.string s] W fun x w'=>x=.returned (.tuple #[.agg #[.string e.key,.int .i64 e.page,.int .i64 e.slot],.int .i64 c,.int .i64 0])∧Only (fun _=>False) W w'):=fun W=>by
    have h:=bread_any X.lv s W
    rw [hs] at h
    exact h
  have HY:Hid (∀ W,Only (fun _=>False) w W→Calls Tryz.prog 70 #[.agg #[.int .i64 a,.int .i64 3,.int .i64 X.lv,.int .i64 X.rt,.string (hiB X.hi),.slice ao X.items.length cp],.agg #[.string e.key,.int .i64 e.page,.int .i64 e.slot]] W fun x w'=>x=.returned (.tuple #[.bool (byd X.hi e),.int .i64 0])∧Only (fun _=>False) W w'):=fun W ho=>by
    have h:=beyond_nd W a X e B cp ao (hP.more ho)
    unfold byV at h
    rw [if_pos he] at h
    exact h
  clear hP hs he
  obtain ⟨L,hL⟩:=exq ((X.lv:Int))
  obtain ⟨R,hR⟩:=exq ((X.rt:Int))
  obtain ⟨h,hh⟩:=exq (hiB X.hi)
  obtain ⟨n,hn⟩:=exq (X.items.length)
  obtain ⟨Y,hY⟩:=exq (byd X.hi e)
  rw [hL,hR,hh,hn] at HP HO HY ⊢
  rw [hL] at HB2
  rw [hY] at HY ⊢
  clear hL hR hh hn hY
  go_enter Tryz.func51,Tryz.ntmps51
  go_upto_region 1 with fail
  obtain ⟨W0,hW0⟩:=exq (w.alloc (.cells #[.int .i64 a,.int .i64 3,.int .i64 L,.int .i64 R,.string h,.slice ao n cp] 24))
  rw [hW0] at HP HO ⊢
  clear hW0
  obtain ⟨p0,p1,p2,p3,p4,p5,_⟩:=HP.out
  go_wp2_with fail
  refine (HB2.out _).mono ?_
  rintro x w1 ⟨rfl,ho⟩
  have HP1:=hide (HP.out.more ho)
  have HO1:=hide (o2 HO.out ho)
  clear ho p0 p1 p2 p3 p4 p5 HP HO HB2
  go_upto_region 2 with fail
  have HA:=hide (onlyA w1 (.cells #[.string e.key,.int .i64 e.page,.int .i64 e.slot] 41))
  have HV:=hide (Ev.new w1 e)
  obtain ⟨cb,hcb⟩:=exq (w1.heap.size)
  rw [hcb] at HV ⊢
  clear hcb
  obtain ⟨w2,hw2⟩:=exq (w1.alloc (.cells #[.string e.key,.int .i64 e.page,.int .i64 e.slot] 41))
  rw [hw2] at HA HV ⊢
  clear hw2
  have HP2:=hide (HP1.out.more HA.out)
  have HO2:=hide (o2 HO1.out HA.out)
  clear HA HP1 HO1
  obtain ⟨p0,p1,p2,p3,p4,p5,_⟩:=HP2.out
  obtain ⟨d0,d1,d2,_⟩:=HV.out
  go_wp2_with fail
  refine (HY.out _ HO2.out).mono ?_
  rintro x w3 ⟨rfl,ho⟩
  have HO3:=hide (o2 HO2.out ho)
  clear ho
  go_wp2_with fail
  go_ret
  exact ⟨rfl,HO3.out⟩
end Go.Proofs.YtipkeeobmihogaaGreat
