/- Parts. -/
import Derived.Test.YtipkeeobmihogaaGreatK36
import Derived.Test.YtipkeeobmihogaaGreatK41
set_option maxRecDepth 100000
namespace Go.Proofs.YtipkeeobmihogaaGreat
open Go.RowKit
theorem hdO_good {X:Nd} (hl:X.lv≤255) (hr:X.rt≤65535) {lo:En} (ho:X.Ok lo):hdO 3 X.lv X.rt (hiB X.hi)=some X.hi:=by
  unfold hdO
  rw [if_pos ⟨rfl,by omega,by omega,by omega,by omega⟩]
  rcases ho.hiok with y | y
  · have:hiB X.hi=⟨#[]⟩:=by unfold hiB; rw [if_pos y]
    rw [if_pos this,y]
  · have:hiB X.hi=X.hi.enc:=by unfold hiB; rw [if_neg (En.ok_ne y.1)]
    rw [this,if_neg enc_ne,bl_enc,decE_lay y.1]
theorem ckB_good {w:World} {X:Nd} {B:Nat} {ao:Option Addr} (h:Nm w X B ao) {a:Int} (ha:0≤a):ckB a 3 X.lv X.rt (hiB X.hi) X.items=true:=by
  have hout:(Pg.out ⟨a,3,X.lv,X.rt,hiB X.hi,X.items⟩).2=0:=h.out ha
  obtain ⟨lo,ho⟩:=h.ok
  unfold ckB
  rw [decide_eq_true hout,Bool.and_true]
  unfold rdB lfB inB
  rw [hdO_good h.lvl h.rt ho]
  by_cases hv:X.lv=0
  · have hv':(X.lv:Int)=0:=by omega
    rw [if_pos hv']
    simp only [decide_eq_true hv',Bool.true_and]
    rw [rdL_leaf (ho.lfIs hv)]
    rfl
  · have hv':¬ (X.lv:Int)=0:=by omega
    have hI:=ho.inIs h.kok (by omega)
    have hne:¬ X.items=[]:=by
      obtain ⟨c,r,e⟩:=hI.first
      intro k
      rw [hI.items,e] at k
      cases k
    rw [if_neg hv']
    simp only [decide_eq_false hv',decide_eq_false hne,Bool.not_false,Bool.true_and]
    rw [rdI_inner hI]
    rfl
theorem Nm.high {w:World} {X:Nd} {B:Nat} {ao:Option Addr} (h:Nm w X B ao):(hiB X.hi).size≤45:=by
  obtain ⟨lo,ho⟩:=h.ok
  exact (hiB_is ho.hiok).size
theorem fcheck_nd (w:World) (a:Int) (X:Nd) (B cp:Nat) (ao:Option Addr) (hP:Nm w X B ao) (ha:0≤a∧a < 9223372036854775808) :
    Calls Tryz.prog 41 #[.agg #[.int .i64 a,.int .i64 3,.int .i64 X.lv,.int .i64 X.rt,.string (hiB X.hi),.slice ao X.items.length cp]] w fun x w'=>x=.returned (.int .i64 0)∧Only (fun _=>False) w w':=by
  have q:=fcheck_any w a 3 X.lv X.rt (hiB X.hi) B cp ao X.items hP.strs (by have:=hP.high; omega) ha.2
  rw [ckB_good hP ha.1] at q
  exact q
theorem fdecode_hi {X:Nd} {lo:En} (ho:X.Ok lo) (W:World):∃ c:Int,Calls Tryz.prog 25 #[.string (hiB X.hi)] W fun x w'=>x=.returned (.tuple #[.agg #[.string X.hi.key,.int .i64 X.hi.page,.int .i64 X.hi.slot],.int .i64 c])∧Only (fun _=>False) W w':=by
  have hs:=(hiB_is ho.hiok).size
  have q:=fdecode_any (hiB X.hi) W (by unfold maxLen; omega)
  rcases ho.hiok with y | y
  · have e:hiB X.hi=⟨#[]⟩:=by unfold hiB; rw [if_pos y]
    rw [e] at q ⊢
    rw [decE_empty] at q
    rw [y]
    exact ⟨140,q⟩
  · have e:hiB X.hi=X.hi.enc:=by unfold hiB; rw [if_neg (En.ok_ne y.1)]
    rw [e] at q ⊢
    rw [bl_enc,decE_lay y.1] at q
    exact ⟨0,q⟩
set_option maxHeartbeats 1600000 in
theorem fbeyond_nd (w:World) (a:Int) (X:Nd) (e:En) (B cp:Nat) (ao:Option Addr) (hP:Nm w X B ao) (ha:0≤a∧a < 9223372036854775808) :
    Calls Tryz.prog 22 #[.agg #[.int .i64 a,.int .i64 3,.int .i64 X.lv,.int .i64 X.rt,.string (hiB X.hi),.slice ao X.items.length cp],e.agg] w fun x w'=>x=.returned (byV X.hi e)∧Only (fun _=>False) w w':=by
  have HX:=hide (pe_new w (.int .i64 a) (.int .i64 3) (.int .i64 X.lv) (.int .i64 X.rt) (.string (hiB X.hi)) (.slice ao X.items.length cp) e)
  have HCK:=hide (fcheck_nd _ a X B cp ao (hP.more HX.out.2.2) ha)
  have HIE:Hid (∀ W,Calls Tryz.prog 55 #[.agg #[.string e.key,.int .i64 e.page,.int .i64 e.slot]] W fun x w'=>x=.returned (.bool e.ok)∧Only (fun _=>False) W w'):=fun W=>fentry_any e W
  obtain ⟨lo,ho⟩:=hP.ok
  have HDH:=hide (fun W=>fdecode_hi ho W)
  have HCM:Hid (∀ W,Calls Tryz.prog 56 #[.agg #[.string e.key,.int .i64 e.page,.int .i64 e.slot],.agg #[.string X.hi.key,.int .i64 X.hi.page,.int .i64 X.hi.slot]] W fun x w'=>x=.returned (.int .i64 (cmpE e X.hi))∧Only (fun _=>False) W w'):=fun W=>fcompare_any e X.hi W
  have hcp:=cmpE_pos (a:=e) (b:=X.hi)
  have hhi:(X.hi=noE∧hiB X.hi=⟨#[]⟩)∨(X.hi≠noE∧¬ hiB X.hi=⟨#[]⟩):=by
    by_cases y:X.hi=noE
    · exact .inl ⟨y,by unfold hiB; rw [if_pos y]⟩
    · refine .inr ⟨y,?_⟩
      unfold hiB
      rw [if_neg y]
      exact enc_ne
  have hby:byd X.hi e=(!decide (X.hi=noE) && decide (X.hi.lt e)):=by unfold byd; simp
  clear hP ha ho
  unfold byV En.agg
  obtain ⟨c,hc⟩:=exq (cmpE e X.hi)
  obtain ⟨O,hO⟩:=exq (e.ok)
  obtain ⟨Y,hY⟩:=exq (byd X.hi e)
  rw [hc] at HCM hcp
  rw [hO] at HIE ⊢
  rw [hY] at hby ⊢
  obtain ⟨h,hh⟩:=exq (hiB X.hi)
  obtain ⟨hi,hhi2⟩:=exq (X.hi)
  obtain ⟨L,hL⟩:=exq ((X.lv:Int))
  obtain ⟨R,hR⟩:=exq ((X.rt:Int))
  obtain ⟨n,hn⟩:=exq (X.items.length)
  rw [hL,hR,hh,hn] at HX HCK ⊢
  rw [hh] at HDH hhi
  rw [hhi2] at HDH HCM hcp hby hhi
  have HBY:=hide hby
  have HCP:=hide hcp
  have HHI:=hide hhi
  clear hc hO hY hh hhi2 hL hR hn hby hcp hhi
  go_enter Tryz.func22,Tryz.ntmps22
  go_upto_region 1 with fail
  obtain ⟨W0,hW0⟩:=exq ((w.alloc (.cells #[.int .i64 a,.int .i64 3,.int .i64 L,.int .i64 R,.string h,.slice ao n cp] 24)).alloc (.cells #[.string e.key,.int .i64 e.page,.int .i64 e.slot] 41))
  rw [hW0] at HX HCK ⊢
  clear hW0
  obtain ⟨p0,p1,p2,p3,p4,p5,_⟩:=HX.out.1
  go_wp2_with fail
  refine HCK.out.mono ?_
  rintro x w1 ⟨rfl,ho⟩
  have HP1:=hide (HX.out.1.more ho)
  have HV1:=hide (HX.out.2.1.more ho)
  have HO1:=hide (o2 HX.out.2.2 ho)
  clear ho p0 p1 p2 p3 p4 p5 HX HCK
  obtain ⟨d0,d1,d2,_⟩:=HV1.out
  go_wp2_with fail
  refine (HIE.out _).mono ?_
  rintro x w2 ⟨rfl,ho⟩
  have HP2:=hide (HP1.out.more ho)
  have HV2:=hide (HV1.out.more ho)
  have HO2:=hide (o2 HO1.out ho)
  clear ho d0 d1 d2 HP1 HV1 HO1 HIE
  cases O with
  | false=>
    go_wp2_with fail
    go_ret2
    exact ⟨rfl,HO2.out⟩
  | true=>
    have p4:=HP2.out.c4
    obtain ⟨f,hf⟩:=HDH.out w2
    have HDF:=hide hf
    clear hf HDH
    go_wp2_with fail
    refine HDF.out.mono ?_
    rintro x w3 ⟨rfl,ho⟩
    have HP3:=hide (HP2.out.more (o2 ho (onlyA w3 (.cells #[.string hi.key,.int .i64 hi.page,.int .i64 hi.slot] 41))))
    have HV3:=hide (HV2.out.more (o2 ho (onlyA w3 (.cells #[.string hi.key,.int .i64 hi.page,.int .i64 hi.slot] 41))))
    have HO3:=hide (o2 HO2.out (o2 ho (onlyA w3 (.cells #[.string hi.key,.int .i64 hi.page,.int .i64 hi.slot] 41))))
    have HH3:=hide (Ev.new w3 hi)
    clear ho p4 HP2 HV2 HO2 HDF
    go_upto_region 4 with fail
    obtain ⟨hb,hhb⟩:=exq (w3.heap.size)
    rw [hhb] at HH3 ⊢
    clear hhb
    obtain ⟨w4,hw4⟩:=exq (w3.alloc (.cells #[.string hi.key,.int .i64 hi.page,.int .i64 hi.slot] 41))
    rw [hw4] at HP3 HV3 HO3 HH3 ⊢
    clear hw4
    have p4:=HP3.out.c4
    rcases HHI.out with ⟨q1,q2⟩ | ⟨q1,q2⟩
    · subst q2
      have HY:Hid (false=Y):=by
        have:=HBY.out
        rw [decide_eq_true q1] at this
        exact this.symm
      clear q1 HHI HBY
      go_wp2_with fail
      go_ret2
      obtain rfl:=HY.out
      exact ⟨rfl,HO3.out⟩
    · have hne:=ba_neN (s:=h) (t:=⟨#[]⟩) q2
      have hne':¬ h.toList=[]:=by
        have h2:¬ h.toList=(⟨#[]⟩:ByteArray).toList:=by simpa using hne
        rw [ByteArray.toList_eq ⟨#[]⟩] at h2
        exact h2
      have hn1:(h.toList == [])=false:=by simpa using hne'
      have hn2:h.toList.isEmpty=false:=by
        cases e:h.toList with
        | nil=>exact absurd e hne'
        | cons _ _=>rfl
      have HBZ:Hid (Y=decide (hi.lt e)):=by
        have:=HBY.out
        rw [decide_eq_false q1] at this
        exact this
      clear q1 q2 hne HHI HBY
      obtain ⟨d0,d1,d2,_⟩:=HV3.out
      obtain ⟨s0,s1,s2,_⟩:=HH3.out
      go_wp2_with fail
      refine (HCM.out _).mono ?_
      rintro x w5 ⟨rfl,ho⟩
      have HO5:=hide (o2 HO3.out ho)
      clear ho d0 d1 d2 s0 s1 s2 p4
      by_cases hc0:(0:Int) < c
      · have HY:Hid (true=Y):=by rw [HBZ.out,decide_eq_true (HCP.out.1 hc0)]; rfl
        clear HBZ HCP
        go_wp2_with fail
        go_ret2
        obtain rfl:=HY.out
        exact ⟨rfl,HO5.out⟩
      · have HY:Hid (false=Y):=by rw [HBZ.out,decide_eq_false (fun k=>hc0 (HCP.out.2 k))]; rfl
        have hcd:decide ((0:Int) < c)=false:=decide_eq_false hc0
        clear HBZ HCP hc0
        go_wp2_with fail
        go_ret2
        obtain rfl:=HY.out
        exact ⟨rfl,HO5.out⟩
set_option maxHeartbeats 3200000 in
theorem fentries_nd (w:World) (a:Int) (X:Nd) (B cp:Nat) (ao:Option Addr) (hP:Nm w X B ao) (ha:0≤a∧a < 9223372036854775808) (hv:X.lv=0) :
    Calls Tryz.prog 42 #[.agg #[.int .i64 a,.int .i64 3,.int .i64 0,.int .i64 X.rt,.string (hiB X.hi),.slice ao X.items.length cp]] w fun x w'=>EnR w w' x X.es:=by
  have HP:=hide (Pag.new w (.int .i64 a) (.int .i64 3) (.int .i64 0) (.int .i64 X.rt) (.string (hiB X.hi)) (.slice ao X.items.length cp))
  have HO:=hide (onlyA w (.cells #[.int .i64 a,.int .i64 3,.int .i64 0,.int .i64 X.rt,.string (hiB X.hi),.slice ao X.items.length cp] 24))
  have hCK:=fcheck_nd _ a X B cp ao (hP.more HO.out) ha
  rw [hv] at hCK
  have HCK:=hide hCK
  obtain ⟨lo,ho⟩:=hP.ok
  have hL:=ho.lfIs hv
  have HS:=hide hP.strs
  have hsz:∀ s ∈ X.items,s.size≤512:=fun s hs=>by
    have h1:=ho.size
    unfold Nd.size at h1
    have h2:=isz_mem hs
    omega
  have hlen:X.items.length=X.es.length:=hL.len
  have hfew:X.items.length≤82:=by have:=hP.few; rw [Nd.items_len]; exact this
  clear hP ha hv hCK ho
  unfold EnR
  obtain ⟨h,hh⟩:=exq (hiB X.hi)
  obtain ⟨R,hR⟩:=exq ((X.rt:Int))
  obtain ⟨l,hl⟩:=exq (X.items)
  obtain ⟨es,hes⟩:=exq (X.es)
  rw [hh,hR,hl] at HP HO HCK ⊢
  rw [hl] at HS hlen hfew hsz hL
  rw [hes] at hlen hL ⊢
  clear hh hR hl hes
  have HDC:Hid (∀ (j:Nat) (hj:j < l.length) (hj':j < es.length) (W:World),Calls Tryz.prog 25 #[.string l[j]] W fun x w'=>x=.returned (.tuple #[.agg #[.string es[j].key,.int .i64 es[j].page,.int .i64 es[j].slot],.int .i64 0])∧Only (fun _=>False) W w'):=fun j hj hj' W=>by
    have hd:=hL.at_ j hj hj'
    have hs:=hsz l[j] (List.getElem_mem hj)
    have:=fdecode_any l[j] W (by unfold maxLen; omega)
    rw [hd] at this
    exact this
  have HLN:Hid (l.length=es.length):=hlen
  clear hsz hL hlen
  go_enter Tryz.func42,Tryz.ntmps42
  go_upto_region 1 with fail
  obtain ⟨W0,hW0⟩:=exq (w.alloc (.cells #[.int .i64 a,.int .i64 3,.int .i64 0,.int .i64 R,.string h,.slice ao l.length cp] 24))
  rw [hW0] at HP HO HCK ⊢
  clear hW0
  obtain ⟨p0,p1,p2,p3,p4,p5,_⟩:=HP.out
  go_wp2_with fail
  refine HCK.out.mono ?_
  rintro x w1 ⟨rfl,hox⟩
  have HP1:=hide (HP.out.more hox)
  have HO1:=hide (o2 HO.out hox)
  clear hox p0 p1 p2 p3 p4 p5 HP HO HCK
  have p2:=HP1.out.c2
  go_upto_region 5 with fail
  clear p2
  go_loopw [4,5] (fun v i wr=>∃ (j:Nat) (va:Option Addr) (vc:Nat),j≤l.length∧i=.int .i64 (j:Int)∧v=.slice va j vc∧Hid (Ets wr w1.heap.size (.slice va j vc) (es.take j))∧Hid (Only (fun _=>False) w1 wr)) (fun _ i _=>l.length - (intOf i).toNat)
  case atStart=>exact ⟨0,none,0,Nat.zero_le _,rfl,rfl,hide (by rw [List.take_zero]; exact Ets.nil _ _),hide (Only.refl _ _)⟩
  case round=>
    obtain ⟨j,va,vc,hj,rfl,rfl,HE,HW⟩:=hrel
    have HPj:=hide (HP1.out.more HW.out)
    have p5:=HPj.out.c5
    by_cases hlt:j < l.length
    · have hje:j < es.length:=by have:=HLN.out; omega
      obtain ⟨o,rfl,hc⟩:=(HS.out.more (o2 HO1.out HW.out)).at_ (by omega)
      have ck:=hc j hlt
      have hlk:(j:Int) < (l.length:Int):=by omega
      have hlk2:¬ (l.length:Int)≤(j:Int):=by omega
      have HD:=hide (HDC.out j hlt hje)
      have HTK:Hid (es.take (j+1)=es.take j++[es[j]]):=List.take_succ_eq_append_getElem hje
      have HTL:Hid ((es.take j).length=j):=by unfold Hid; rw [List.length_take]; omega
      obtain ⟨s,hs⟩:=exq (l[j])
      obtain ⟨e,he⟩:=exq (es[j])
      rw [hs] at ck HD
      rw [he] at HD HTK
      clear hc hs he
      go_wp2_with fail
      refine (HD.out _).mono ?_
      rintro x w2 ⟨rfl,hox⟩
      have HA:=hide (onlyA w2 (.cells #[.string e.key,.int .i64 e.page,.int .i64 e.slot] 41))
      have HV:=hide (Ev.new w2 e)
      have HW3:=hide (o2 (o2 HW.out hox) HA.out)
      have HE3:=hide (HE.out.more (o2 hox HA.out))
      clear hox p5 ck HA HPj
      go_upto_region 8 with fail
      obtain ⟨xb,hxb⟩:=exq (w2.heap.size)
      rw [hxb] at HV ⊢
      clear hxb
      obtain ⟨w3,hw3⟩:=exq (w2.alloc (.cells #[.string e.key,.int .i64 e.page,.int .i64 e.slot] 41))
      rw [hw3] at HV HW3 HE3 ⊢
      clear hw3
      obtain ⟨d0,d1,d2,_⟩:=HV.out
      obtain ⟨A5,C5,w5,hr5,he5,ho5,_⟩:=ets_append (w3.alloc (.cells #[.string e.key,.int .i64 e.page,.int .i64 e.slot] 41)) w1.heap.size _ _ (HE3.out.more (onlyA _ _)) w3.heap.size 0 1 1 [e] rfl (fun k hk=>by
        have:k=0:=by simpa using hk
        subst this
        exact (Ev.new w3 e).eb) (by have:=HTL.out; omega) (Nat.le_trans HW3.out.size (onlyA _ _).size)
      have HW5:Hid (Only (fun _=>False) w1 w5):=(o2 HW3.out (onlyA _ _)).trans ho5 (fun k hk z=>by have:=(World.ownsRow.lt HE3.out k z).1; omega)
      rw [HTL.out] at hr5 he5
      rw [← HTK.out] at he5
      have HE5:=hide he5
      have HR5:=hide hr5
      clear hr5 he5 ho5
      go_wp2_with (at_builtin; go_must (refine Lib.wpList_append_run _ rfl _ _ _ _ rfl _ _ rfl rfl _ _ HR5.out ?_))
      go_roundw
      case rel=>exact ⟨j+1,A5,C5,by omega,by go_num,rfl,HE5,HW5⟩
      case measure=>simp [intOf]; omega
    · have hlk:¬ (j:Int) < (l.length:Int):=by omega
      have hje:j=es.length:=by have:=HLN.out; omega
      subst hje
      rw [List.take_length] at HE
      have HB1:Hid (w.heap.size≤w1.heap.size):=HO1.out.size
      have HO9:=hide (o2 HO1.out HW.out)
      go_wp2_with fail
      go_ret2
      exact ⟨va,vc,rfl,HE.out.base HB1.out,HO9.out⟩
def KiR (w w':World) (x:Ending) (es:List En):Prop:=∃ A C A2 C2,x=.returned (.tuple #[.slice A es.length C,.slice A2 es.length C2,.int .i64 0])∧Ets w' w.heap.size (.slice A es.length C) es∧Only (fun _=>False) w w'
set_option maxHeartbeats 3200000 in
theorem fkids_nd (w:World) (a:Int) (X:Nd) (B cp:Nat) (ao:Option Addr) (hP:Nm w X B ao) (ha:0≤a∧a < 9223372036854775808) (hv:0 < X.lv) :
    Calls Tryz.prog 46 #[.agg #[.int .i64 a,.int .i64 3,.int .i64 X.lv,.int .i64 X.rt,.string (hiB X.hi),.slice ao X.items.length cp]] w fun x w'=>KiR w w' x X.es:=by
  have HP:=hide (Pag.new w (.int .i64 a) (.int .i64 3) (.int .i64 X.lv) (.int .i64 X.rt) (.string (hiB X.hi)) (.slice ao X.items.length cp))
  have HO:=hide (onlyA w (.cells #[.int .i64 a,.int .i64 3,.int .i64 X.lv,.int .i64 X.rt,.string (hiB X.hi),.slice ao X.items.length cp] 24))
  have HCK:=hide (fcheck_nd _ a X B cp ao (hP.more HO.out) ha)
  obtain ⟨lo,ho⟩:=hP.ok
  have hL:=ho.inIs hP.kok hv
  have HS:=hide hP.strs
  have hsz:∀ s ∈ X.items,s.size≤512:=fun s hs=>by
    have h1:=ho.size
    unfold Nd.size at h1
    have h2:=isz_mem hs
    omega
  have hlen:X.items.length=X.ks.length:=hL.len
  have hfew:X.items.length≤82:=by have:=hP.few; rw [Nd.items_len]; exact this
  have hv0:((X.lv:Int) == 0)=false:=by rw [beq_eq_false_iff_ne]; omega
  have hes:X.es=X.ks.map Prod.fst:=rfl
  clear hP ha hv ho
  rw [hes]
  obtain ⟨h,hh⟩:=exq (hiB X.hi)
  obtain ⟨R,hR⟩:=exq ((X.rt:Int))
  obtain ⟨V,hV⟩:=exq ((X.lv:Int))
  obtain ⟨l,hl⟩:=exq (X.items)
  obtain ⟨ks,hks⟩:=exq (X.ks)
  rw [hh,hR,hV,hl] at HP HO HCK ⊢
  rw [hV] at hv0
  rw [hl] at HS hlen hfew hsz hL
  rw [hks] at hlen hL ⊢
  clear hh hR hl hks hV hes
  have HDC:Hid (∀ (j:Nat) (hj:j < l.length) (hj':j < ks.length) (W:World),Calls Tryz.prog 45 #[.string l[j]] W fun x w'=>x=.returned (.tuple #[.agg #[.string ks[j].1.key,.int .i64 ks[j].1.page,.int .i64 ks[j].1.slot],.int .i64 ks[j].2,.int .i64 0])∧Only (fun _=>False) W w'):=fun j hj hj' W=>by
    have hd:=hL.at_ j hj hj'
    have hs:=hsz l[j] (List.getElem_mem hj)
    have:=funsep_any l[j] W (by unfold maxLen; omega)
    rw [hd] at this
    exact this
  have HLN:Hid (l.length=ks.length):=hlen
  clear hsz hL hlen
  obtain ⟨es,hes⟩:=exq (ks.map Prod.fst)
  have HKE:Hid (∀ (j:Nat) (hj:j < ks.length),es.take (j+1)=es.take j++[ks[j].1]∧(ks.map Prod.snd).take (j+1)=(ks.map Prod.snd).take j++[ks[j].2]∧(es.take j).length=j∧((ks.map Prod.snd).take j).length=j):=fun j hj=>by
    subst hes
    have e1:(ks.map Prod.fst)[j]'(by rw [List.length_map]; exact hj)=ks[j].1:=by simp
    have e2:(ks.map Prod.snd)[j]'(by rw [List.length_map]; exact hj)=ks[j].2:=by simp
    refine ⟨?_,?_,?_,?_⟩
    · rw [List.take_succ_eq_append_getElem (by rw [List.length_map]; exact hj),e1]
    · rw [List.take_succ_eq_append_getElem (by rw [List.length_map]; exact hj),e2]
    · rw [List.length_take,List.length_map]; omega
    · rw [List.length_take,List.length_map]; omega
  have HEL:Hid (es.length=ks.length):=by rw [← hes]; exact List.length_map _
  obtain ⟨kk,hkk⟩:=exq (ks.map Prod.snd)
  rw [hkk] at HKE
  rw [hes]
  clear hes hkk
  go_enter Tryz.func46,Tryz.ntmps46
  go_upto_region 1 with fail
  obtain ⟨W0,hW0⟩:=exq (w.alloc (.cells #[.int .i64 a,.int .i64 3,.int .i64 V,.int .i64 R,.string h,.slice ao l.length cp] 24))
  rw [hW0] at HP HO HCK ⊢
  clear hW0
  obtain ⟨p0,p1,p2,p3,p4,p5,_⟩:=HP.out
  go_wp2_with fail
  refine HCK.out.mono ?_
  rintro x w1 ⟨rfl,hox⟩
  have HP1:=hide (HP.out.more hox)
  have HO1:=hide (o2 HO.out hox)
  clear hox p0 p1 p2 p3 p4 p5 HP HO HCK
  have p2:=HP1.out.c2
  go_upto_region 6 with fail
  clear p2
  go_loopw [5,6,7] (fun v u i wr=>∃ (j:Nat) (va:Option Addr) (vc:Nat) (ua:Option Addr) (uc:Nat),j≤l.length∧i=.int .i64 (j:Int)∧v=.slice va j vc∧u=.slice ua j uc∧Hid (Ets wr w1.heap.size (.slice va j vc) (es.take j))∧Hid (Kts wr w1.heap.size (.slice ua j uc) (kk.take j))∧Hid (∀ k,(Value.slice va j vc).ownBlock=some k→¬ (Value.slice ua j uc).ownBlock=some k)∧Hid (Only (fun _=>False) w1 wr)) (fun _ _ i _=>l.length - (intOf i).toNat)
  case atStart=>exact ⟨0,none,0,none,0,Nat.zero_le _,rfl,rfl,rfl,hide (by rw [List.take_zero]; exact Ets.nil _ _),hide (by rw [List.take_zero]; exact Kts.nil _ _),hide (fun k hk=>by cases hk),hide (Only.refl _ _)⟩
  case round=>
    obtain ⟨j,va,vc,ua,uc,hj,rfl,rfl,rfl,HE,HK,HDS,HW⟩:=hrel
    have HPj:=hide (HP1.out.more HW.out)
    have p5:=HPj.out.c5
    by_cases hlt:j < l.length
    · have hje:j < ks.length:=by have:=HLN.out; omega
      obtain ⟨o,rfl,hc⟩:=(HS.out.more (o2 HO1.out HW.out)).at_ (by omega)
      have ck:=hc j hlt
      have hlk:(j:Int) < (l.length:Int):=by omega
      have hlk2:¬ (l.length:Int)≤(j:Int):=by omega
      have HD:=hide (HDC.out j hlt hje)
      have HTK:=hide (HKE.out j hje)
      obtain ⟨s,hs⟩:=exq (l[j])
      obtain ⟨e,he⟩:=exq (ks[j].1)
      obtain ⟨kd,hkd⟩:=exq (ks[j].2)
      rw [hs] at ck HD
      rw [he,hkd] at HD HTK
      clear hc hs he hkd
      go_wp2_with fail
      refine (HD.out _).mono ?_
      rintro x w2 ⟨rfl,hox⟩
      have HA:=hide (onlyA w2 (.cells #[.string e.key,.int .i64 e.page,.int .i64 e.slot] 41))
      have HV:=hide (Ev.new w2 e)
      have HW3:=hide (o2 (o2 HW.out hox) HA.out)
      have HE3:=hide (HE.out.more (o2 hox HA.out))
      have HK3:=hide (HK.out.more (o2 hox HA.out))
      clear hox p5 ck HA HPj
      go_upto_region 9 with fail
      obtain ⟨xb,hxb⟩:=exq (w2.heap.size)
      rw [hxb] at HV ⊢
      clear hxb
      obtain ⟨w3,hw3⟩:=exq (w2.alloc (.cells #[.string e.key,.int .i64 e.page,.int .i64 e.slot] 41))
      rw [hw3] at HV HW3 HE3 HK3 ⊢
      clear hw3
      obtain ⟨d0,d1,d2,_⟩:=HV.out
      have hA3:=onlyA w3 (.cells #[.string e.key,.int .i64 e.page,.int .i64 e.slot] 41)
      obtain ⟨A5,C5,w5,hr5,he5,ho5,hx5⟩:=ets_append (w3.alloc (.cells #[.string e.key,.int .i64 e.page,.int .i64 e.slot] 41)) w1.heap.size _ _ (HE3.out.more hA3) w3.heap.size 0 1 1 [e] rfl (fun k hk=>by
        have:k=0:=by simpa using hk
        subst this
        exact (Ev.new w3 e).eb) (by have:=HTK.out.2.2.1; omega) (Nat.le_trans HW3.out.size hA3.size)
      have HW5:Hid (Only (fun _=>False) w1 w5):=(o2 HW3.out hA3).trans ho5 (fun k hk z=>by have:=(World.ownsRow.lt HE3.out k z).1; omega)
      rw [HTK.out.2.2.1] at hr5 he5 hx5
      rw [← HTK.out.1] at he5
      have hk5:Kts w5 w1.heap.size (.slice ua j uc) (kk.take j):=(HK3.out.more hA3).kept ho5 (fun k hk z=>HDS.out k z hk)
      have hd5:∀ k,(Value.slice A5 (j+1) C5).ownBlock=some k→¬ (Value.slice ua j uc).ownBlock=some k:=fun k hk z=>by
        rcases hx5 with q | q
        · rw [q] at hk
          exact HDS.out k hk z
        · rw [q] at hk
          have h1:=(World.ownsRow.lt (HK3.out.more hA3) k z).2
          injection hk with hk
          omega
      have hA5:=onlyA w5 (.cells #[.int .i64 kd] 3)
      obtain ⟨A6,C6,w6,hr6,he6,ho6,hx6⟩:=kts_append (w5.alloc (.cells #[.int .i64 kd] 3)) w1.heap.size _ _ (hk5.more hA5) w5.heap.size kd (by simp) (by have:=HTK.out.2.2.2; omega) (Nat.le_trans HW5.out.size hA5.size)
      have HW6:Hid (Only (fun _=>False) w1 w6):=(o2 HW5.out hA5).trans ho6 (fun k hk z=>by have:=(World.ownsRow.lt hk5 k z).1; omega)
      rw [HTK.out.2.2.2] at hr6 he6 hx6
      rw [← HTK.out.2.1] at he6
      have HE6:Hid (Ets w6 w1.heap.size (.slice A5 (j+1) C5) (es.take (j+1))):=(he5.more hA5).kept ho6 (fun k hk z=>hd5 k hk z)
      have HD6:Hid (∀ k,(Value.slice A5 (j+1) C5).ownBlock=some k→¬ (Value.slice A6 (j+1) C6).ownBlock=some k):=fun k hk z=>by
        rcases hx6 with q | q
        · rw [q] at z
          exact hd5 k hk z
        · rw [q] at z
          have h1:=(World.ownsRow.lt (he5.more hA5) k hk).2
          injection z with z
          omega
      have HK6:=hide he6
      have HR5:=hide hr5
      have HR6:=hide hr6
      clear hr5 he5 ho5 hx5 hr6 he6 ho6 hx6 hk5 hd5 hA3 hA5 HE HK HDS HE3 HK3
      go_wp2_with (at_builtin; go_must (first | (refine Lib.wpList_append_run _ rfl _ _ _ _ rfl _ _ rfl rfl _ _ HR5.out ?_) | (refine Lib.wpList_append_run _ rfl _ _ _ _ rfl _ _ rfl rfl _ _ HR6.out ?_)))
      go_roundw
      case rel=>exact ⟨j+1,A5,C5,A6,C6,by omega,by go_num,rfl,rfl,HE6,HK6,HD6,HW6⟩
      case measure=>simp [intOf]; omega
    · have hlk:¬ (j:Int) < (l.length:Int):=by omega
      have hje:j=es.length:=by have:=HLN.out; have:=HEL.out; omega
      subst hje
      rw [List.take_length] at HE
      have HB1:Hid (w.heap.size≤w1.heap.size):=HO1.out.size
      have HO9:=hide (o2 HO1.out HW.out)
      go_wp2_with fail
      go_ret3
      exact ⟨va,vc,ua,uc,rfl,HE.out.base HB1.out,HO9.out⟩
theorem plE_atF {es:List En} {e:En} {m:Nat} (hr:Rise es) (hm:m≤es.length) (h1:∀ x ∈ es.take m,x.lt e) (h2:∀ h:m < es.length,¬ es[m].lt e):plE es e=m:=by
  refine plE_of hm h1 (fun x hx=>?_)
  by_cases hl:m < es.length
  · rw [List.drop_eq_getElem_cons hl] at hx
    have h':List.Pairwise En.lt (es.take m++es.drop m):=by rw [List.take_append_drop]; exact hr
    have hb:=(List.pairwise_append.1 h').2.1
    rw [List.drop_eq_getElem_cons hl] at hb
    rcases List.mem_cons.1 hx with k | k
    · rw [k]; exact h2 hl
    · exact fun q=>h2 hl (En.lt_trans ((List.pairwise_cons.1 hb).1 x k) q)
  · rw [List.drop_of_length_le (by omega)] at hx
    cases hx
theorem not_mem_at {es:List En} {e:En} {m:Nat} (hr:Rise es) (h1:∀ x ∈ es.take m,x.lt e) (h2:∀ h:m < es.length,¬ es[m].lt e∧¬ es[m]=e):e ∉ es:=by
  intro hm
  rw [← List.take_append_drop m es] at hm
  rcases List.mem_append.1 hm with k | k
  · exact En.lt_irrefl _ (h1 e k)
  · by_cases hl:m < es.length
    · have h':List.Pairwise En.lt (es.take m++es.drop m):=by rw [List.take_append_drop]; exact hr
      have hb:=(List.pairwise_append.1 h').2.1
      rw [List.drop_eq_getElem_cons hl] at hb k
      rcases List.mem_cons.1 k with q | q
      · exact (h2 hl).2 q.symm
      · exact (h2 hl).1 ((List.pairwise_cons.1 hb).1 e q)
    · rw [List.drop_of_length_le (by omega)] at k
      cases k
set_option maxHeartbeats 6400000 in
theorem finsert_nd (w:World) (a:Int) (X:Nd) (e:En) (B cp:Nat) (ao:Option Addr) (hP:Nm w X B ao) (ha:0≤a∧a < 9223372036854775808) (hv:X.lv=0) (hF:Fit ao X.items.length cp) :
    Calls Tryz.prog 44 #[.agg #[.int .i64 a,.int .i64 3,.int .i64 0,.int .i64 X.rt,.string (hiB X.hi),.slice ao X.items.length cp],e.agg] w fun x w'=>InsQ w w' x a X.rt (hiB X.hi) X.hi e X.items X.es:=by
  have HX:=hide (ins_new w (.int .i64 a) (.int .i64 3) (.int .i64 0) (.int .i64 X.rt) (.string (hiB X.hi)) (.slice ao X.items.length cp) e)
  have HEN:=hide (fun (W:World) (ho:Only (fun _=>False) w W)=>fentries_nd W a X B cp ao (hP.more ho) ha hv)
  have hBYD:=fun (W:World) (ho:Only (fun _=>False) w W)=>fbeyond_nd W a X e B cp ao (hP.more ho) ha
  rw [hv] at hBYD
  have HBY:=hide hBYD
  obtain ⟨lo,hok⟩:=hP.ok
  have hL:=hok.lfIs hv
  have hfew:X.items.length≤82:=by have:=hP.few; rw [Nd.items_len]; exact this
  have HRW:Hid (e.ok=true→∀ W,Calls Tryz.prog 53 #[.agg #[.string e.key,.int .i64 e.page,.int .i64 e.slot]] W fun x w'=>x=.returned (.string e.enc)∧Only (fun _=>False) W w'):=fun he W=>fraw_any e W (En.few_ok he)
  have HPT:Hid (e.ok=true→∀ W,Only (fun _=>False) w W→Calls Tryz.prog 89 #[.agg #[.int .i64 a,.int .i64 3,.int .i64 0,.int .i64 X.rt,.string (hiB X.hi),.slice ao X.items.length cp],.int .i64 (plE X.es e:Int),.string e.enc] W fun x w'=>∃ p k,Res W w' x p k∧(((255 < (insI X.items X.es e).length∨512 < 20+(hiB X.hi).size+isz (insI X.items X.es e))∧p=.none∧k=3)∨(¬ (255 < (insI X.items X.es e).length∨512 < 20+(hiB X.hi).size+isz (insI X.items X.es e))∧p=⟨a,3,0,X.rt,hiB X.hi,insI X.items X.es e⟩∧k=0))):=fun he W ho=>
    (fput_at W a 3 0 X.rt (hiB X.hi) B cp ao X.items (plE X.es e) e.enc (hP.strs.more ho) hF (by have:=hP.high; omega) (by have:=enc_size he; omega) (by have:=plE_le X.es e; have:=hL.len; omega) (by omega)).mono (fun x w' hq=>hq.any)
  have HRI:Hid (Rise X.es):=hL.rise
  have HELF:Hid (X.es.length≤82):=by have:=hL.len; unfold Hid; omega
  clear hP ha hv hF hBYD hok hL hfew
  obtain ⟨h,hh⟩:=exq (hiB X.hi)
  obtain ⟨hi,hhi⟩:=exq (X.hi)
  obtain ⟨r,hr⟩:=exq ((X.rt:Int))
  obtain ⟨l,hl⟩:=exq (X.items)
  obtain ⟨es,hes⟩:=exq (X.es)
  rw [hh,hr,hl] at HX HEN HPT ⊢
  rw [hes] at HEN HPT HRI HELF ⊢
  have HBY2:Hid (∀ W,Only (fun _=>False) w W→Calls Tryz.prog 22 #[.agg #[.int .i64 a,.int .i64 3,.int .i64 0,.int .i64 r,.string h,.slice ao l.length cp],.agg #[.string e.key,.int .i64 e.page,.int .i64 e.slot]] W fun x w'=>x=.returned (byV hi e)∧Only (fun _=>False) W w'):=fun W ho=>by
    have q:=HBY.out W ho
    rw [hh,hr,hl,hhi] at q
    exact q
  rw [hhi]
  clear hh hhi hr hl hes HBY
  obtain ⟨K,hK⟩:=exq (plE es e)
  obtain ⟨E,hE⟩:=exq (e.enc)
  rw [hK,hE] at HPT
  rw [hE] at HRW
  have HKP:=hide hK
  clear hK hE
  have HBZ:Hid ((e.ok=true∧byd hi e=false∧byV hi e=.tuple #[.bool false,.int .i64 0])∨((e.ok=false∨byd hi e=true)∧∃ b c,byV hi e=.tuple #[.bool b,.int .i64 c]∧(b=true∨(c != 0)=true))):=by
    unfold byV
    cases ho:e.ok with
    | false=>exact .inr ⟨.inl rfl,false,140,by simp,.inr (by decide)⟩
    | true=>
      cases hb:byd hi e with
      | false=>exact .inl ⟨rfl,rfl,by simp⟩
      | true=>exact .inr ⟨.inr rfl,true,0,by simp,.inl rfl⟩
  unfold En.agg
  go_enter Tryz.func44,Tryz.ntmps44
  go_upto_region 1 with fail
  obtain ⟨W0,hW0⟩:=exq (((w.alloc (.cells #[.int .i64 a,.int .i64 3,.int .i64 0,.int .i64 r,.string h,.slice ao l.length cp] 24)).alloc (.cells #[.string e.key,.int .i64 e.page,.int .i64 e.slot] 41)).alloc (.cells #[.int .i64 0,.int .i64 0,.int .i64 0,.int .i64 0,.string ⟨#[]⟩,.slice none 0 0] 24))
  rw [hW0] at HX ⊢
  clear hW0
  obtain ⟨p0,p1,p2,p3,p4,p5,_⟩:=HX.out.1
  go_wp2_with fail
  refine (HEN.out _ HX.out.2.2.2).mono ?_
  rintro x w1 ⟨A,C,rfl,he,ho⟩
  have HP1:=hide (HX.out.1.more ho)
  have HV1:=hide (HX.out.2.1.more ho)
  have HQ1:=hide (HX.out.2.2.1.more ho)
  have HO1:=hide (o2 HX.out.2.2.2 ho)
  have HE1:=hide he
  clear he ho p0 p1 p2 p3 p4 p5 HEN HX
  obtain ⟨p0,p1,p2,p3,p4,p5,_⟩:=HP1.out
  obtain ⟨d0,d1,d2,_⟩:=HV1.out
  go_wp2_with fail
  refine (HBY2.out _ HO1.out).mono ?_
  rintro x w3 ⟨rfl,ho⟩
  have HP3:=hide (HP1.out.more ho)
  have HV3:=hide (HV1.out.more ho)
  have HQ3:=hide (HQ1.out.more ho)
  have HO3:=hide (o2 HO1.out ho)
  have HE3:=hide (HE1.out.more ho)
  clear ho p0 p1 p2 p3 p4 p5 d0 d1 d2 HP1 HV1 HQ1 HO1 HE1 HBY2
  rcases HBZ.out with ⟨hok,hbn,hbv⟩ | ⟨hbad,b,c,hbv,hbc⟩
  · rw [hbv]
    have HOK:=hide hok
    have HBN:=hide hbn
    have HRW0:=hide (HRW.out hok)
    have HPT0:=hide (HPT.out hok)
    clear hok hbn hbv HBZ HRW HPT
    obtain ⟨BQ,hels,_⟩:=HE3.out.elsOf
    have HEL:=hide hels
    clear hels
    go_upto_region 6 with fail
    go_loopw [10] (fun x wy=>∃ (m:Nat),x=.int .i64 (m:Int)∧m≤es.length∧Hid (∀ y ∈ es.take m,y.lt e)∧Hid (Only (fun _=>False) w3 wy)) (fun x _=>es.length - (intOf x).toNat)
    case atStart=>exact ⟨0,rfl,by omega,hide (by simp),hide (Only.refl _ _)⟩
    case round=>
      obtain ⟨m,rfl,hm,HTK,HM⟩:=hrel
      have hm82:m≤82:=by have:=HELF.out; omega
      have HV4:=hide (HV3.out.more HM.out)
      by_cases hml:m < es.length
      · have hm1:(m:Int) < (es.length:Int):=by omega
        have hm2:¬ (es.length:Int)≤(m:Int):=by omega
        obtain ⟨oq,rfl,hebq⟩:=(HEL.out.more HM.out).of m hml
        obtain ⟨g,hg⟩:=exq (es[m])
        rw [hg] at hebq
        have HQ5:=hide hebq
        clear hebq
        have hcm:=cmpE_neg (a:=g) (b:=e)
        have HCQ:Hid (∀ W,Calls Tryz.prog 56 #[.agg #[.string g.key,.int .i64 g.page,.int .i64 g.slot],.agg #[.string e.key,.int .i64 e.page,.int .i64 e.slot]] W fun x w'=>x=.returned (.int .i64 (cmpE g e))∧Only (fun _=>False) W w'):=fun W=>fcompare_any g e W
        obtain ⟨c,hc⟩:=exq (cmpE g e)
        rw [hc] at hcm HCQ
        clear hc
        by_cases hrl:g.lt e
        · have hc1:c < 0:=hcm.2 hrl
          have HTK1:Hid (∀ y ∈ es.take (m+1),y.lt e):=take_lt HRI.out m hml (by rw [hg]; exact hrl)
          clear hcm hrl hg
          go_upto_region 6 with fail
          -- {r6a
          refine wp_region_noPanic ?_
          refine wp_region_held_drew (S:=fun W=>Only (fun _=>False) wr W) (by kernel_rfl) (Only.drew _ _) (fun hHeld=>?_)
          refine tkP 0 (.int .i64 (m:Int)) rfl ?_
          refine tkP 1 (.slice (some ⟨BQ,oq,none⟩) es.length C) rfl ?_
          refine tkP 2 (.int .i64 (es.length:Int)) rfl ?_
          refine tkP 3 (.bool true) rfl ?_
          refine tkP 4 (.bool true) rfl ?_
          refine tkP 5 (.slice (some ⟨BQ,oq,none⟩) es.length C) rfl ?_
          refine tkP 6 (.int .i64 (m:Int)) rfl ?_
          refine tkQ 9 (.agg #[.string e.key,.int .i64 e.page,.int .i64 e.slot]) rfl (yieldsIf_load_ev (by rfl) _ rfl rfl (fun W hW=>HV4.out.more hW)) ?_
          refine tkP 7 (.pointer (some ⟨BQ,oq+m * 3,none⟩)) rfl ?_
          refine tkQ 8 (.agg #[.string g.key,.int .i64 g.page,.int .i64 g.slot]) rfl (yieldsIf_load_eb (by rfl) _ rfl rfl (fun W hW=>HQ5.out.more hW)) ?_
          refine rd1 10 rfl (fun K hK=>?_)
          go_simp
          refine (HCQ.out _).mono ?_
          rintro x x1 ⟨rfl,hox⟩
          have HX1:=hide (o2 hHeld hox)
          clear hox
          refine hK.out _ _ (HX1.out) (fun hHeld=>?_)
          clear hK K
          try simp only [Act.put,lsA,lsB,lsC]
          refine tkP 11 (.bool true) rfl ?_
          refine tkP 12 (.bool true) rfl ?_
          refine dnN ?_
          go_wp2_with fail
          go_roundw
          case rel=>exact ⟨m+1,by go_num,by omega,HTK1,hide (o2 HM.out HX1.out)⟩
          case measure=>simp [intOf]; omega
          -- r6a}
        · have hc1:¬ c < 0:=fun k=>hrl (hcm.1 k)
          have HRL:Hid (¬ g.lt e):=hrl
          have HQM:Hid (es[m]=g):=hg
          clear hcm hrl hg
          go_upto_region 6 with fail
          -- {r6b
          refine wp_region_noPanic ?_
          refine wp_region_held_drew (S:=fun W=>Only (fun _=>False) wr W) (by kernel_rfl) (Only.drew _ _) (fun hHeld=>?_)
          refine tkP 0 (.int .i64 (m:Int)) rfl ?_
          refine tkP 1 (.slice (some ⟨BQ,oq,none⟩) es.length C) rfl ?_
          refine tkP 2 (.int .i64 (es.length:Int)) rfl ?_
          refine tkP 3 (.bool true) rfl ?_
          refine tkP 4 (.bool true) rfl ?_
          refine tkP 5 (.slice (some ⟨BQ,oq,none⟩) es.length C) rfl ?_
          refine tkP 6 (.int .i64 (m:Int)) rfl ?_
          refine tkQ 9 (.agg #[.string e.key,.int .i64 e.page,.int .i64 e.slot]) rfl (yieldsIf_load_ev (by rfl) _ rfl rfl (fun W hW=>HV4.out.more hW)) ?_
          refine tkP 7 (.pointer (some ⟨BQ,oq+m * 3,none⟩)) rfl ?_
          refine tkQ 8 (.agg #[.string g.key,.int .i64 g.page,.int .i64 g.slot]) rfl (yieldsIf_load_eb (by rfl) _ rfl rfl (fun W hW=>HQ5.out.more hW)) ?_
          refine rd1 10 rfl (fun K hK=>?_)
          go_simp
          refine (HCQ.out _).mono ?_
          rintro x x1 ⟨rfl,hox⟩
          have HX1:=hide (o2 hHeld hox)
          clear hox
          refine hK.out _ _ (HX1.out) (fun hHeld=>?_)
          clear hK K
          try simp only [Act.put,lsA,lsB,lsC]
          refine tkP 11 (.bool false) rfl ?_
          refine tkP 12 (.bool false) rfl ?_
          refine dnN ?_
          -- r6b}
          go_upto_region 8 with fail
          have hqe:=eqE_run g e
          by_cases hrq:g=e
          · rw [decide_eq_true hrq] at hqe
            have HIN:Hid (e ∈ es):=by
              rw [← hrq,← HQM.out]
              exact List.getElem_mem _
            clear hrq
            -- {r8a
            refine wp_region_noPanic ?_
            refine wp_region_held_drew (S:=fun W=>Only (fun _=>False) wr W) (by kernel_rfl) (o2 HX1.out (Only.drew _ _)) (fun hHeld=>?_)
            refine tkP 0 (.int .i64 (m:Int)) rfl ?_
            refine tkP 1 (.slice (some ⟨BQ,oq,none⟩) es.length C) rfl ?_
            refine tkP 2 (.int .i64 (es.length:Int)) rfl ?_
            refine tkP 3 (.bool true) rfl ?_
            refine tkP 4 (.bool true) rfl ?_
            refine tkP 5 (.slice (some ⟨BQ,oq,none⟩) es.length C) rfl ?_
            refine tkP 6 (.int .i64 (m:Int)) rfl ?_
            refine tkQ 9 (.agg #[.string e.key,.int .i64 e.page,.int .i64 e.slot]) rfl (yieldsIf_load_ev (by rfl) _ rfl rfl (fun W hW=>HV4.out.more hW)) ?_
            refine tkP 7 (.pointer (some ⟨BQ,oq+m * 3,none⟩)) rfl ?_
            refine tkQ 8 (.agg #[.string g.key,.int .i64 g.page,.int .i64 g.slot]) rfl (yieldsIf_load_eb (by rfl) _ rfl rfl (fun W hW=>HQ5.out.more hW)) ?_
            refine tkP 10 (.bool true) rfl ?_
            refine tkP 11 (.bool true) rfl ?_
            refine dnN ?_
            -- r8a}
            have HX6:Hid (Only (fun _=>False) wr x1.drew):=o2 HX1.out (Only.drew _ _)
            obtain ⟨w5,hw5⟩:=exq (x1.drew)
            rw [hw5] at HX6 ⊢
            clear hw5
            have HQ6:=hide (HQ3.out.more (o2 HM.out HX6.out))
            have HO5:=hide (o2 HO3.out (o2 HM.out HX6.out))
            obtain ⟨q0,q1,q2,q3,q4,q5,g0,g1,g2,g3,g4,g5,ql⟩:=HQ6.out
            go_wp2_with fail
            refine bodyPost_ret (results_page rfl rfl (Pag.six HQ6.out _ _ _ _ _ _)) rfl ?_
            exact ⟨fun _=>resErr _ HO5.out (by omega),fun _ _ h1=>absurd HIN.out h1⟩
          · rw [decide_eq_false hrq] at hqe
            have HNI:Hid (e ∉ es):=not_mem_at HRI.out HTK.out (fun _=>by rw [HQM.out]; exact ⟨HRL.out,hrq⟩)
            have HPM:Hid (K=m):=HKP.out.symm.trans (plE_atF HRI.out hm HTK.out (fun _=>by rw [HQM.out]; exact HRL.out))
            clear hrq
            -- {r8b
            refine wp_region_noPanic ?_
            refine wp_region_held_drew (S:=fun W=>Only (fun _=>False) wr W) (by kernel_rfl) (o2 HX1.out (Only.drew _ _)) (fun hHeld=>?_)
            refine tkP 0 (.int .i64 (m:Int)) rfl ?_
            refine tkP 1 (.slice (some ⟨BQ,oq,none⟩) es.length C) rfl ?_
            refine tkP 2 (.int .i64 (es.length:Int)) rfl ?_
            refine tkP 3 (.bool true) rfl ?_
            refine tkP 4 (.bool true) rfl ?_
            refine tkP 5 (.slice (some ⟨BQ,oq,none⟩) es.length C) rfl ?_
            refine tkP 6 (.int .i64 (m:Int)) rfl ?_
            refine tkQ 9 (.agg #[.string e.key,.int .i64 e.page,.int .i64 e.slot]) rfl (yieldsIf_load_ev (by rfl) _ rfl rfl (fun W hW=>HV4.out.more hW)) ?_
            refine tkP 7 (.pointer (some ⟨BQ,oq+m * 3,none⟩)) rfl ?_
            refine tkQ 8 (.agg #[.string g.key,.int .i64 g.page,.int .i64 g.slot]) rfl (yieldsIf_load_eb (by rfl) _ rfl rfl (fun W hW=>HQ5.out.more hW)) ?_
            refine tkP 10 (.bool false) rfl ?_
            refine tkP 11 (.bool false) rfl ?_
            refine dnN ?_
            -- r8b}
            have HX6:Hid (Only (fun _=>False) wr x1.drew):=o2 HX1.out (Only.drew _ _)
            obtain ⟨w5,hw5⟩:=exq (x1.drew)
            rw [hw5] at HX6 ⊢
            clear hw5 hqe HX1
            have HP5:=hide (HP3.out.more (o2 HM.out HX6.out))
            have HV5:=hide (HV3.out.more (o2 HM.out HX6.out))
            have HG5:=hide (HQ3.out.more (o2 HM.out HX6.out))
            have HO5:=hide (o2 HO3.out (o2 HM.out HX6.out))
            obtain rfl:=HPM.out
            go_upto_region 10 with fail
            -- {r10B
            refine wp_region_noPanic ?_
            refine wp_region_held_drew (S:=fun W=>Only (fun k=>k=w.heap.size+1+1) w5 W) (by kernel_rfl) (Only.drew _ _) (fun hHeld=>?_)
            refine tkQ 0 (.agg #[.int .i64 a,.int .i64 3,.int .i64 0,.int .i64 r,.string h,.slice ao l.length cp]) rfl (yieldsIf_load_page (by rfl) _ rfl _ rfl (fun W hW=>HP5.out.kept hW (by omega))) ?_
            refine tkP 1 (.int .i64 (K:Int)) rfl ?_
            refine tkQ 2 (.agg #[.string e.key,.int .i64 e.page,.int .i64 e.slot]) rfl (yieldsIf_load_ev (by rfl) _ rfl rfl (fun W hW=>HV5.out.kept hW (by omega))) ?_
            refine rd1 3 rfl (fun K hK=>?_)
            go_simp
            refine (HRW0.out _).mono ?_
            rintro x x1 ⟨rfl,hx1⟩
            have HX1:=hide (o2 (Only.drew _ w5) hx1)
            clear hx1
            refine hK.out _ _ (HX1.out.mono (fun _ _ h=>h.elim)) (fun hHeld=>?_)
            clear hK K
            try simp only [Act.put,lsA,lsB,lsC]
            refine rd1 4 rfl (fun K hK=>?_)
            go_simp
            refine (HPT0.out _ (o2 HO5.out HX1.out)).mono ?_
            rintro x x2 ⟨p,k,⟨B5,ao5,cp5,rfl,hS5,hF5,ho5,hB5⟩,hpk⟩
            have HX2:=hide ho5
            have HS7:=hide (And.intro hS5 (And.intro hF5 hB5))
            have HPK:=hide hpk
            have HQ7:=hide (HG5.out.more (o2 HX1.out HX2.out))
            have HZ7:Hid (w.heap.size+1+1 < x1.heap.size):=(HG5.out.more HX1.out).lt
            obtain ⟨q0,q1,q2,q3,q4,q5,g0,g1,g2,g3,g4,g5,ql⟩:=HQ7.out
            clear hS5 hF5 ho5 hB5 hpk
            refine hK.out _ _ ((o2 HX1.out HX2.out).mono (fun _ _ h=>h.elim)) (fun hHeld=>?_)
            clear hK K
            try simp only [Act.put,lsA,lsB,lsC]
            refine tkP 5 (.agg #[.int .i64 p.lsn,.int .i64 p.kind,.int .i64 p.level,.int .i64 p.right,.string p.high,.slice ao5 p.items.length cp5]) rfl ?_
            refine tkP 6 (.int .i64 k) rfl ?_
            refine rd1 7 rfl (fun K hK=>?_)
            go_simp
            refine hK.out _ _ (((o2 HX1.out HX2.out).mono (fun _ _ h=>h.elim)).trans (Only.six x2 (w.heap.size+1+1) _ _ _ _ _ _) (fun _ _ h=>h)) (fun hHeld=>?_)
            clear hK K
            try simp only [Act.put,lsA,lsB,lsC]
            refine tkP 8 (.int .i64 k) rfl ?_
            refine dnN ?_
            -- r10B}
            go_wp2_with fail
            refine bodyPost_ret (results_page rfl rfl (Pag.six HQ7.out _ _ _ _ _ _)) rfl ?_
            have hres:=resSix (k:=k) HS7.out.1 HS7.out.2.1 HX2.out HS7.out.2.2 (o2 HO5.out HX1.out) (w.heap.size+1+1) (by omega) HZ7.out (.int .i64 p.lsn) (.int .i64 p.kind) (.int .i64 p.level) (.int .i64 p.right) (.string p.high) (.slice ao5 p.items.length cp5)
            refine ⟨fun h1=>?_,fun _ _ _=>?_⟩
            · rcases h1 with h1 | h1 | h1
              · rw [HOK.out] at h1; cases h1
              · rw [HBN.out] at h1; cases h1
              · exact absurd h1 HNI.out
            · rcases HPK.out with ⟨k1,rfl,rfl⟩ | ⟨k1,rfl,rfl⟩
              · exact Or3.yes k1 hres
              · exact Or3.no k1 hres
      · have hm1:¬ (m:Int) < (es.length:Int):=by omega
        go_upto_region 6 with fail
        -- {r6c
        refine wp_region_noPanic ?_
        refine wp_region_held_drew (S:=fun W=>Only (fun _=>False) wr W) (by kernel_rfl) (Only.drew _ _) (fun hHeld=>?_)
        refine tkP 0 (.int .i64 (m:Int)) rfl ?_
        refine tkP 1 (.slice A es.length C) rfl ?_
        refine tkP 2 (.int .i64 (es.length:Int)) rfl ?_
        refine tkP 3 (.bool false) rfl ?_
        refine tkP 4 (.bool false) rfl ?_
        refine tkQ 5 undef rfl (Or.inr ⟨by rfl,rfl⟩) ?_
        refine tkQ 6 undef rfl (Or.inr ⟨by rfl,rfl⟩) ?_
        refine tkQ 9 undef rfl (Or.inr ⟨by rfl,rfl⟩) ?_
        refine tkQ 7 undef rfl (Or.inr ⟨by rfl,rfl⟩) ?_
        refine tkQ 8 undef rfl (Or.inr ⟨by rfl,rfl⟩) ?_
        refine tkQ 10 undef rfl (Or.inr ⟨by rfl,rfl⟩) ?_
        refine tkQ 11 undef rfl (Or.inr ⟨by rfl,rfl⟩) ?_
        refine tkP 12 (.bool false) rfl ?_
        refine dnN ?_
        -- r6c}
        go_upto_region 8 with fail
        -- {r8c
        refine wp_region_noPanic ?_
        refine wp_region_held_drew (S:=fun W=>Only (fun _=>False) wr W) (by kernel_rfl) (o2 (Only.drew _ _) (Only.drew _ _)) (fun hHeld=>?_)
        refine tkP 0 (.int .i64 (m:Int)) rfl ?_
        refine tkP 1 (.slice A es.length C) rfl ?_
        refine tkP 2 (.int .i64 (es.length:Int)) rfl ?_
        refine tkP 3 (.bool false) rfl ?_
        refine tkP 4 (.bool false) rfl ?_
        refine tkQ 5 undef rfl (Or.inr ⟨by rfl,rfl⟩) ?_
        refine tkQ 6 undef rfl (Or.inr ⟨by rfl,rfl⟩) ?_
        refine tkQ 9 undef rfl (Or.inr ⟨by rfl,rfl⟩) ?_
        refine tkQ 7 undef rfl (Or.inr ⟨by rfl,rfl⟩) ?_
        refine tkQ 8 undef rfl (Or.inr ⟨by rfl,rfl⟩) ?_
        refine tkQ 10 undef rfl (Or.inr ⟨by rfl,rfl⟩) ?_
        refine tkP 11 (.bool false) rfl ?_
        refine dnN ?_
        -- r8c}
        have HX6:Hid (Only (fun _=>False) wr wr.drew.drew):=o2 (Only.drew _ _) (Only.drew _ _)
        obtain ⟨w5,hw5⟩:=exq (wr.drew.drew)
        rw [hw5] at HX6 ⊢
        clear hw5
        have HNI:Hid (e ∉ es):=not_mem_at HRI.out HTK.out (fun k=>by omega)
        have HPM:Hid (K=m):=HKP.out.symm.trans (plE_atF HRI.out hm HTK.out (fun k=>by omega))
        have HP5:=hide (HP3.out.more (o2 HM.out HX6.out))
        have HV5:=hide (HV3.out.more (o2 HM.out HX6.out))
        have HG5:=hide (HQ3.out.more (o2 HM.out HX6.out))
        have HO5:=hide (o2 HO3.out (o2 HM.out HX6.out))
        obtain rfl:=HPM.out
        go_upto_region 10 with fail
        -- {r10C
        refine wp_region_noPanic ?_
        refine wp_region_held_drew (S:=fun W=>Only (fun k=>k=w.heap.size+1+1) w5 W) (by kernel_rfl) (Only.drew _ _) (fun hHeld=>?_)
        refine tkQ 0 (.agg #[.int .i64 a,.int .i64 3,.int .i64 0,.int .i64 r,.string h,.slice ao l.length cp]) rfl (yieldsIf_load_page (by rfl) _ rfl _ rfl (fun W hW=>HP5.out.kept hW (by omega))) ?_
        refine tkP 1 (.int .i64 (K:Int)) rfl ?_
        refine tkQ 2 (.agg #[.string e.key,.int .i64 e.page,.int .i64 e.slot]) rfl (yieldsIf_load_ev (by rfl) _ rfl rfl (fun W hW=>HV5.out.kept hW (by omega))) ?_
        refine rd1 3 rfl (fun K hK=>?_)
        go_simp
        refine (HRW0.out _).mono ?_
        rintro x x1 ⟨rfl,hx1⟩
        have HX1:=hide (o2 (Only.drew _ w5) hx1)
        clear hx1
        refine hK.out _ _ (HX1.out.mono (fun _ _ h=>h.elim)) (fun hHeld=>?_)
        clear hK K
        try simp only [Act.put,lsA,lsB,lsC]
        refine rd1 4 rfl (fun K hK=>?_)
        go_simp
        refine (HPT0.out _ (o2 HO5.out HX1.out)).mono ?_
        rintro x x2 ⟨p,k,⟨B5,ao5,cp5,rfl,hS5,hF5,ho5,hB5⟩,hpk⟩
        have HX2:=hide ho5
        have HS7:=hide (And.intro hS5 (And.intro hF5 hB5))
        have HPK:=hide hpk
        have HQ7:=hide (HG5.out.more (o2 HX1.out HX2.out))
        have HZ7:Hid (w.heap.size+1+1 < x1.heap.size):=(HG5.out.more HX1.out).lt
        obtain ⟨q0,q1,q2,q3,q4,q5,g0,g1,g2,g3,g4,g5,ql⟩:=HQ7.out
        clear hS5 hF5 ho5 hB5 hpk
        refine hK.out _ _ ((o2 HX1.out HX2.out).mono (fun _ _ h=>h.elim)) (fun hHeld=>?_)
        clear hK K
        try simp only [Act.put,lsA,lsB,lsC]
        refine tkP 5 (.agg #[.int .i64 p.lsn,.int .i64 p.kind,.int .i64 p.level,.int .i64 p.right,.string p.high,.slice ao5 p.items.length cp5]) rfl ?_
        refine tkP 6 (.int .i64 k) rfl ?_
        refine rd1 7 rfl (fun K hK=>?_)
        go_simp
        refine hK.out _ _ (((o2 HX1.out HX2.out).mono (fun _ _ h=>h.elim)).trans (Only.six x2 (w.heap.size+1+1) _ _ _ _ _ _) (fun _ _ h=>h)) (fun hHeld=>?_)
        clear hK K
        try simp only [Act.put,lsA,lsB,lsC]
        refine tkP 8 (.int .i64 k) rfl ?_
        refine dnN ?_
        -- r10C}
        go_wp2_with fail
        refine bodyPost_ret (results_page rfl rfl (Pag.six HQ7.out _ _ _ _ _ _)) rfl ?_
        have hres:=resSix (k:=k) HS7.out.1 HS7.out.2.1 HX2.out HS7.out.2.2 (o2 HO5.out HX1.out) (w.heap.size+1+1) (by omega) HZ7.out (.int .i64 p.lsn) (.int .i64 p.kind) (.int .i64 p.level) (.int .i64 p.right) (.string p.high) (.slice ao5 p.items.length cp5)
        refine ⟨fun h1=>?_,fun _ _ _=>?_⟩
        · rcases h1 with h1 | h1 | h1
          · rw [HOK.out] at h1; cases h1
          · rw [HBN.out] at h1; cases h1
          · exact absurd h1 HNI.out
        · rcases HPK.out with ⟨k1,rfl,rfl⟩ | ⟨k1,rfl,rfl⟩
          · exact Or3.yes k1 hres
          · exact Or3.no k1 hres
  · rw [hbv]
    have HBD:Hid (e.ok=true→byd hi e=false→False):=fun k1 k2=>by
      rcases hbad with q | q
      · rw [k1] at q; cases q
      · rw [k2] at q; cases q
    clear hbad hbv HBZ HRW HPT
    obtain ⟨q0,q1,q2,q3,q4,q5,g0,g1,g2,g3,g4,g5,ql⟩:=HQ3.out
    by_cases hc0:c=0
    · subst hc0
      have hb:b=true:=by
        rcases hbc with q | q
        · exact q
        · cases q
      subst hb
      clear hbc
      go_wp2_with fail
      refine bodyPost_ret (results_page rfl rfl (Pag.six HQ3.out _ _ _ _ _ _)) rfl ?_
      exact ⟨fun _=>resErr _ HO3.out (by omega),fun k1 k2=>(HBD.out k1 k2).elim⟩
    · have hcn:(c != 0)=true:=by simpa using hc0
      clear hbc hc0
      go_wp2_with fail
      refine bodyPost_ret (results_page rfl rfl (Pag.six HQ3.out _ _ _ _ _ _)) rfl ?_
      exact ⟨fun _=>resErr _ HO3.out (by omega),fun k1 k2=>(HBD.out k1 k2).elim⟩
end Go.Proofs.YtipkeeobmihogaaGreat
