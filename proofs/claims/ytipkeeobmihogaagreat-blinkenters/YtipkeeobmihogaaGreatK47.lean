/- Parts. -/
import Derived.Test.YtipkeeobmihogaaGreatK42
set_option maxRecDepth 100000
namespace Go.Proofs.YtipkeeobmihogaaGreat
open Go.RowKit
set_option maxHeartbeats 6400000 in
theorem fpost_nd (w:World) (a:Int) (X:Nd) (e:En) (kid:Int) (B cp:Nat) (ao:Option Addr) (hP:Nm w X B ao) (ha:0≤a∧a < 9223372036854775808) (hv:0 < X.lv) (hF:Fit ao X.items.length cp) :
    Calls Tryz.prog 47 #[.agg #[.int .i64 a,.int .i64 3,.int .i64 X.lv,.int .i64 X.rt,.string (hiB X.hi),.slice ao X.items.length cp],e.agg,.int .i64 kid] w fun x w'=>PosQ w w' x a X.lv X.rt (hiB X.hi) X.hi e kid X.items X.ks:=by
  have HX:=hide (ins_new w (.int .i64 a) (.int .i64 3) (.int .i64 X.lv) (.int .i64 X.rt) (.string (hiB X.hi)) (.slice ao X.items.length cp) e)
  have HEN:=hide (fun (W:World) (ho:Only (fun _=>False) w W)=>fkids_nd W a X B cp ao (hP.more ho) ha hv)
  have HIE:Hid (∀ W,Calls Tryz.prog 55 #[.agg #[.string e.key,.int .i64 e.page,.int .i64 e.slot]] W fun x w'=>x=.returned (.bool e.ok)∧Only (fun _=>False) W w'):=fun W=>fentry_any e W
  have HCH:Hid (∀ W,Calls Tryz.prog 52 #[.int .i64 kid] W fun x w'=>x=.returned (.bool (okC kid))∧w'=W):=fun W=>fchild_any kid W
  obtain ⟨lo,hok⟩:=hP.ok
  have hL:=hok.inIs hP.kok hv
  have HDH:=hide (fun W=>fdecode_hi hok W)
  have HCM:Hid (∀ W,Calls Tryz.prog 56 #[.agg #[.string e.key,.int .i64 e.page,.int .i64 e.slot],.agg #[.string X.hi.key,.int .i64 X.hi.page,.int .i64 X.hi.slot]] W fun x w'=>x=.returned (.int .i64 (cmpE e X.hi))∧Only (fun _=>False) W w'):=fun W=>fcompare_any e X.hi W
  have hcp:=cmpE_neg (a:=e) (b:=X.hi)
  have hhi:(X.hi=noE∧hiB X.hi=⟨#[]⟩)∨(X.hi≠noE∧¬ hiB X.hi=⟨#[]⟩):=by
    by_cases y:X.hi=noE
    · exact .inl ⟨y,by unfold hiB; rw [if_pos y]⟩
    · refine .inr ⟨y,?_⟩
      unfold hiB
      rw [if_neg y]
      exact enc_ne
  have hfew:X.items.length≤82:=by have:=hP.few; rw [Nd.items_len]; exact this
  have HRW:Hid (e.ok=true→okC kid=true→∀ W,Calls Tryz.prog 54 #[.agg #[.string e.key,.int .i64 e.page,.int .i64 e.slot],.int .i64 kid] W fun x w'=>x=.returned (.tuple #[.string (e.encS kid),.int .i64 0])∧Only (fun _=>False) W w'):=fun he hk W=>by
    have q:=fsep_any e kid W
    rw [En.sp_iff.2 (.inr he),hk] at q
    exact q
  have HPT:Hid (e.ok=true→okC kid=true→∀ W,Only (fun _=>False) w W→Calls Tryz.prog 89 #[.agg #[.int .i64 a,.int .i64 3,.int .i64 X.lv,.int .i64 X.rt,.string (hiB X.hi),.slice ao X.items.length cp],.int .i64 (plE X.es e:Int),.string (e.encS kid)] W fun x w'=>∃ p k,Res W w' x p k∧(((255 < (posI X.items X.ks e kid).length∨512 < 20+(hiB X.hi).size+isz (posI X.items X.ks e kid))∧p=.none∧k=3)∨(¬ (255 < (posI X.items X.ks e kid).length∨512 < 20+(hiB X.hi).size+isz (posI X.items X.ks e kid))∧p=⟨a,3,X.lv,X.rt,hiB X.hi,posI X.items X.ks e kid⟩∧k=0))):=fun he hk W ho=>
    (fput_at W a 3 X.lv X.rt (hiB X.hi) B cp ao X.items (plE X.es e) (e.encS kid) (hP.strs.more ho) hF (by have:=hP.high; omega) (by have:=encS_size kid he; omega) (by have:=plE_le X.es e; have:=hL.len; have:=Nd.es_len X; omega) (by omega)).mono (fun x w' hq=>hq.any)
  have HRI:Hid (Rise X.es):=hL.rise
  have HELF:Hid (X.es.length≤82):=by have:=hL.len; have:=Nd.es_len X; unfold Hid; omega
  have hXE:X.es=X.ks.map Prod.fst:=rfl
  clear hP ha hv hF hok hL hfew
  obtain ⟨h,hh⟩:=exq (hiB X.hi)
  obtain ⟨hi,hhi2⟩:=exq (X.hi)
  obtain ⟨r,hr⟩:=exq ((X.rt:Int))
  obtain ⟨V,hV⟩:=exq ((X.lv:Int))
  obtain ⟨l,hl⟩:=exq (X.items)
  obtain ⟨ks,hks⟩:=exq (X.ks)
  obtain ⟨es,hes⟩:=exq (X.es)
  rw [hh,hr,hl,hV] at HX HEN HPT ⊢
  rw [hes] at HEN HPT HRI HELF hXE
  rw [hks] at HPT hXE ⊢
  rw [hh,hhi2] at HDH hhi
  rw [hhi2] at HCM hcp ⊢
  have HXE:=hide hXE
  have HHI:=hide hhi
  have HCP:=hide hcp
  clear hh hhi2 hr hV hl hks hes hXE hhi hcp
  obtain ⟨K,hK⟩:=exq (plE es e)
  obtain ⟨E,hE⟩:=exq (e.encS kid)
  rw [hK,hE] at HPT
  rw [hE] at HRW
  have HKP:=hide hK
  clear hK hE
  obtain ⟨O,hO⟩:=exq (e.ok)
  obtain ⟨Q,hQ⟩:=exq (okC kid)
  rw [hO] at HIE HRW HPT
  rw [hQ] at HCH HRW HPT
  have HOQ:=hide (And.intro hO hQ)
  clear hO hQ
  unfold En.agg
  go_enter Tryz.func47,Tryz.ntmps47
  go_upto_region 1 with fail
  obtain ⟨W0,hW0⟩:=exq (((w.alloc (.cells #[.int .i64 a,.int .i64 3,.int .i64 V,.int .i64 r,.string h,.slice ao l.length cp] 24)).alloc (.cells #[.string e.key,.int .i64 e.page,.int .i64 e.slot] 41)).alloc (.cells #[.int .i64 0,.int .i64 0,.int .i64 0,.int .i64 0,.string ⟨#[]⟩,.slice none 0 0] 24))
  rw [hW0] at HX ⊢
  clear hW0
  obtain ⟨p0,p1,p2,p3,p4,p5,_⟩:=HX.out.1
  go_wp2_with fail
  refine (HEN.out _ HX.out.2.2.2).mono ?_
  rintro x w1 ⟨A,C,A2,C2,rfl,he,ho⟩
  have HP1:=hide (HX.out.1.more ho)
  have HV1:=hide (HX.out.2.1.more ho)
  have HQ1:=hide (HX.out.2.2.1.more ho)
  have HO1:=hide (o2 HX.out.2.2.2 ho)
  have HE1:=hide he
  clear he ho p0 p1 p2 p3 p4 p5 HEN HX
  obtain ⟨d0,d1,d2,_⟩:=HV1.out
  go_wp2_with fail
  refine (HIE.out _).mono ?_
  rintro x w2 ⟨rfl,ho⟩
  have HP2:=hide (HP1.out.more ho)
  have HV2:=hide (HV1.out.more ho)
  have HQ2:=hide (HQ1.out.more ho)
  have HO2:=hide (o2 HO1.out ho)
  have HE2:=hide (HE1.out.more ho)
  clear ho d0 d1 d2 HP1 HV1 HQ1 HO1 HE1 HIE
  cases O with
  | false=>
    obtain ⟨q0,q1,q2,q3,q4,q5,g0,g1,g2,g3,g4,g5,ql⟩:=HQ2.out
    go_wp2_with fail
    refine bodyPost_ret (results_page rfl rfl (Pag.six HQ2.out _ _ _ _ _ _)) rfl ?_
    exact ⟨fun _=>resErr _ HO2.out (by omega),fun h1=>by rw [HOQ.out.1] at h1; cases h1⟩
  | true=>
  go_wp2_with fail
  refine (HCH.out _).mono ?_
  rintro x w2b ⟨rfl,hwb⟩
  obtain rfl:=hwb.symm
  cases Q with
  | false=>
    obtain ⟨q0,q1,q2,q3,q4,q5,g0,g1,g2,g3,g4,g5,ql⟩:=HQ2.out
    go_wp2_with fail
    refine bodyPost_ret (results_page rfl rfl (Pag.six HQ2.out _ _ _ _ _ _)) rfl ?_
    exact ⟨fun _=>resErr _ HO2.out (by omega),fun _ _ h1=>by rw [HOQ.out.2] at h1; cases h1⟩
  | true=>
  have HOK:Hid (e.ok=true):=HOQ.out.1
  have HCO:Hid (okC kid=true):=HOQ.out.2
  have HRW0:=hide (HRW.out (by trivial) (by trivial))
  have HPT0:=hide (HPT.out (by trivial) (by trivial))
  clear HRW HPT HOQ HCH
  have p4:=HP2.out.c4
  obtain ⟨f,hf⟩:=HDH.out w2
  have HDF:=hide hf
  clear hf HDH
  go_wp2_with fail
  refine HDF.out.mono ?_
  rintro x w3a ⟨rfl,ho⟩
  have hA:=onlyA w3a (.cells #[.string hi.key,.int .i64 hi.page,.int .i64 hi.slot] 41)
  have HP3:=hide (HP2.out.more (o2 ho hA))
  have HV3:=hide (HV2.out.more (o2 ho hA))
  have HQ3:=hide (HQ2.out.more (o2 ho hA))
  have HO3:=hide (o2 HO2.out (o2 ho hA))
  have HE3:=hide (HE2.out.more (o2 ho hA))
  have HH3:=hide (Ev.new w3a hi)
  clear ho p4 hA HP2 HV2 HQ2 HO2 HE2 HDF
  go_upto_region 5 with fail
  obtain ⟨hb,hhb⟩:=exq (w3a.heap.size)
  rw [hhb] at HH3 ⊢
  clear hhb
  obtain ⟨w3b,hw3⟩:=exq (w3a.alloc (.cells #[.string hi.key,.int .i64 hi.page,.int .i64 hi.slot] 41))
  rw [hw3] at HP3 HV3 HQ3 HO3 HE3 HH3 ⊢
  clear hw3
  go_cut [49] (fun x wx=>∃ b:Bool,x=.bool b∧Hid (b=true→blw hi e=false)∧Hid (b=false→blw hi e=true)∧Hid (Only (fun _=>False) w3b wx))
  case first=>
    have p4:=HP3.out.c4
    rcases HHI.out with ⟨q1,q2⟩ | ⟨q1,q2⟩
    · subst q2
      have HB:Hid (blw hi e=true):=blw_yes.2 (.inl q1)
      clear q1 HHI HCP
      go_wp2_with fail
      go_meet
      exact ⟨false,rfl,hide (fun h=>by cases h),hide (fun _=>HB.out),hide (Only.refl _ _)⟩
    · have hne:=ba_neN (s:=h) (t:=⟨#[]⟩) q2
      have hne':¬ h.toList=[]:=by
        have h2:¬ h.toList=(⟨#[]⟩:ByteArray).toList:=by simpa using hne
        rw [ByteArray.toList_eq ⟨#[]⟩] at h2
        exact h2
      have hn1:(h.toList == [])=false:=by simpa using hne'
      have hn2:h.toList.isEmpty=false:=by
        cases e:h.toList with
        | nil=>exact absurd e hne'
        | cons _ _=>rfl
      have HQ1:Hid (hi≠noE):=q1
      clear q1 q2 hne HHI
      obtain ⟨c,hc⟩:=exq (cmpE e hi)
      rw [hc] at HCM HCP
      clear hc
      obtain ⟨d0,d1,d2,_⟩:=HV3.out
      obtain ⟨s0,s1,s2,_⟩:=HH3.out
      go_wp2_with fail
      refine (HCM.out _).mono ?_
      rintro x w4 ⟨rfl,ho⟩
      have HO4:=hide ho
      clear ho d0 d1 d2 s0 s1 s2 p4
      by_cases hc0:(0:Int)≤c
      · have HB:Hid (blw hi e=false):=by
          cases q:blw hi e with
          | false=>rfl
          | true=>
            rcases blw_yes.1 q with z | z
            · exact absurd z HQ1.out
            · have:=HCP.out.2 z
              omega
        clear HCP
        go_wp2_with fail
        go_meet
        exact ⟨true,rfl,hide (fun _=>HB.out),hide (fun h=>by cases h),HO4⟩
      · have HB:Hid (blw hi e=true):=blw_yes.2 (.inr (HCP.out.1 (by omega)))
        clear HCP
        go_wp2_with fail
        go_meet
        exact ⟨false,by rw [decide_eq_false (by omega)],hide (fun h=>by cases h),hide (fun _=>HB.out),HO4⟩
  case rest=>
  obtain ⟨bb,rfl,HB1,HB2,HO6⟩:=hcut
  obtain ⟨w3,hw3⟩:=exq (wc)
  rw [hw3] at HO6 ⊢
  clear hw3
  have HP3:=hide (HP3.out.more HO6.out)
  have HV3:=hide (HV3.out.more HO6.out)
  have HQ3:=hide (HQ3.out.more HO6.out)
  have HO3:=hide (o2 HO3.out HO6.out)
  have HE3:=hide (HE3.out.more HO6.out)
  cases bb with
  | true=>
    have HB:Hid (blw hi e=false):=HB1.out rfl
    clear HB1 HB2
    obtain ⟨q0,q1,q2,q3,q4,q5,g0,g1,g2,g3,g4,g5,ql⟩:=HQ3.out
    go_wp2_with fail
    refine bodyPost_ret (results_page rfl rfl (Pag.six HQ3.out _ _ _ _ _ _)) rfl ?_
    exact ⟨fun _=>resErr _ HO3.out (by omega),fun _ h1=>by rw [HB.out] at h1; cases h1⟩
  | false=>
    have HBN:Hid (blw hi e=true):=HB2.out rfl
    clear HB1 HB2 HO6
    obtain ⟨BQ,hels,_⟩:=HE3.out.elsOf
    have HEL:=hide hels
    clear hels
    go_upto_region 8 with fail
    go_loopw [13] (fun x wy=>∃ (m:Nat),x=.int .i64 (m:Int)∧m≤es.length∧Hid (∀ y ∈ es.take m,y.lt e)∧Hid (Only (fun _=>False) w3 wy)) (fun x _=>es.length - (intOf x).toNat)
    case atStart=>exact ⟨0,rfl,by omega,hide (by simp),hide (Only.refl _ _)⟩
    case round=>
      obtain ⟨m,rfl,hm,HTK,HM⟩:=hrel
      have hm82:m≤82:=by have:=HELF.out; omega
      have HV4:=hide (HV3.out.more HM.out)
      by_cases hml:m < es.length
      · have hm1:(m:Int) < (es.length:Int):=by omega
        have hm2:¬ (es.length:Int)≤(m:Int):=by omega
        obtain ⟨oq,rfl,hebq⟩:=(HEL.out.more HM.out).of m hml
        obtain ⟨g,hg⟩:=exq (es[m])
        rw [hg] at hebq
        have HQ5:=hide hebq
        clear hebq
        have hcm:=cmpE_neg (a:=g) (b:=e)
        have HCQ:Hid (∀ W,Calls Tryz.prog 56 #[.agg #[.string g.key,.int .i64 g.page,.int .i64 g.slot],.agg #[.string e.key,.int .i64 e.page,.int .i64 e.slot]] W fun x w'=>x=.returned (.int .i64 (cmpE g e))∧Only (fun _=>False) W w'):=fun W=>fcompare_any g e W
        obtain ⟨c,hc⟩:=exq (cmpE g e)
        rw [hc] at hcm HCQ
        clear hc
        by_cases hrl:g.lt e
        · have hc1:c < 0:=hcm.2 hrl
          have HTK1:Hid (∀ y ∈ es.take (m+1),y.lt e):=take_lt HRI.out m hml (by rw [hg]; exact hrl)
          clear hcm hrl hg
          go_upto_region 8 with fail
          -- {r6a
          refine wp_region_noPanic ?_
          refine wp_region_held_drew (S:=fun W=>Only (fun _=>False) wr W) (by kernel_rfl) (Only.drew _ _) (fun hHeld=>?_)
          refine tkP 0 (.int .i64 (m:Int)) rfl ?_
          refine tkP 1 (.slice (some ⟨BQ,oq,none⟩) es.length C) rfl ?_
          refine tkP 2 (.int .i64 (es.length:Int)) rfl ?_
          refine tkP 3 (.bool true) rfl ?_
          refine tkP 4 (.bool true) rfl ?_
          refine tkP 5 (.slice (some ⟨BQ,oq,none⟩) es.length C) rfl ?_
          refine tkP 6 (.int .i64 (m:Int)) rfl ?_
          refine tkQ 9 (.agg #[.string e.key,.int .i64 e.page,.int .i64 e.slot]) rfl (yieldsIf_load_ev (by rfl) _ rfl rfl (fun W hW=>HV4.out.more hW)) ?_
          refine tkP 7 (.pointer (some ⟨BQ,oq+m * 3,none⟩)) rfl ?_
          refine tkQ 8 (.agg #[.string g.key,.int .i64 g.page,.int .i64 g.slot]) rfl (yieldsIf_load_eb (by rfl) _ rfl rfl (fun W hW=>HQ5.out.more hW)) ?_
          refine rd1 10 rfl (fun K hK=>?_)
          go_simp
          refine (HCQ.out _).mono ?_
          rintro x x1 ⟨rfl,hox⟩
          have HX1:=hide (o2 hHeld hox)
          clear hox
          refine hK.out _ _ (HX1.out) (fun hHeld=>?_)
          clear hK K
          try simp only [Act.put,lsA,lsB,lsC]
          refine tkP 11 (.bool true) rfl ?_
          refine tkP 12 (.bool true) rfl ?_
          refine dnN ?_
          go_wp2_with fail
          go_roundw
          case rel=>exact ⟨m+1,by go_num,by omega,HTK1,hide (o2 HM.out HX1.out)⟩
          case measure=>simp [intOf]; omega
          -- r6a}
        · have hc1:¬ c < 0:=fun k=>hrl (hcm.1 k)
          have HRL:Hid (¬ g.lt e):=hrl
          have HQM:Hid (es[m]=g):=hg
          clear hcm hrl hg
          go_upto_region 8 with fail
          -- {r6b
          refine wp_region_noPanic ?_
          refine wp_region_held_drew (S:=fun W=>Only (fun _=>False) wr W) (by kernel_rfl) (Only.drew _ _) (fun hHeld=>?_)
          refine tkP 0 (.int .i64 (m:Int)) rfl ?_
          refine tkP 1 (.slice (some ⟨BQ,oq,none⟩) es.length C) rfl ?_
          refine tkP 2 (.int .i64 (es.length:Int)) rfl ?_
          refine tkP 3 (.bool true) rfl ?_
          refine tkP 4 (.bool true) rfl ?_
          refine tkP 5 (.slice (some ⟨BQ,oq,none⟩) es.length C) rfl ?_
          refine tkP 6 (.int .i64 (m:Int)) rfl ?_
          refine tkQ 9 (.agg #[.string e.key,.int .i64 e.page,.int .i64 e.slot]) rfl (yieldsIf_load_ev (by rfl) _ rfl rfl (fun W hW=>HV4.out.more hW)) ?_
          refine tkP 7 (.pointer (some ⟨BQ,oq+m * 3,none⟩)) rfl ?_
          refine tkQ 8 (.agg #[.string g.key,.int .i64 g.page,.int .i64 g.slot]) rfl (yieldsIf_load_eb (by rfl) _ rfl rfl (fun W hW=>HQ5.out.more hW)) ?_
          refine rd1 10 rfl (fun K hK=>?_)
          go_simp
          refine (HCQ.out _).mono ?_
          rintro x x1 ⟨rfl,hox⟩
          have HX1:=hide (o2 hHeld hox)
          clear hox
          refine hK.out _ _ (HX1.out) (fun hHeld=>?_)
          clear hK K
          try simp only [Act.put,lsA,lsB,lsC]
          refine tkP 11 (.bool false) rfl ?_
          refine tkP 12 (.bool false) rfl ?_
          refine dnN ?_
          -- r6b}
          go_upto_region 10 with fail
          have hqe:=eqE_run g e
          by_cases hrq:g=e
          · rw [decide_eq_true hrq] at hqe
            have HIN:Hid (e ∈ es):=by
              rw [← hrq,← HQM.out]
              exact List.getElem_mem _
            clear hrq
            -- {r8a
            refine wp_region_noPanic ?_
            refine wp_region_held_drew (S:=fun W=>Only (fun _=>False) wr W) (by kernel_rfl) (o2 HX1.out (Only.drew _ _)) (fun hHeld=>?_)
            refine tkP 0 (.int .i64 (m:Int)) rfl ?_
            refine tkP 1 (.slice (some ⟨BQ,oq,none⟩) es.length C) rfl ?_
            refine tkP 2 (.int .i64 (es.length:Int)) rfl ?_
            refine tkP 3 (.bool true) rfl ?_
            refine tkP 4 (.bool true) rfl ?_
            refine tkP 5 (.slice (some ⟨BQ,oq,none⟩) es.length C) rfl ?_
            refine tkP 6 (.int .i64 (m:Int)) rfl ?_
            refine tkQ 9 (.agg #[.string e.key,.int .i64 e.page,.int .i64 e.slot]) rfl (yieldsIf_load_ev (by rfl) _ rfl rfl (fun W hW=>HV4.out.more hW)) ?_
            refine tkP 7 (.pointer (some ⟨BQ,oq+m * 3,none⟩)) rfl ?_
            refine tkQ 8 (.agg #[.string g.key,.int .i64 g.page,.int .i64 g.slot]) rfl (yieldsIf_load_eb (by rfl) _ rfl rfl (fun W hW=>HQ5.out.more hW)) ?_
            refine tkP 10 (.bool true) rfl ?_
            refine tkP 11 (.bool true) rfl ?_
            refine dnN ?_
            -- r8a}
            have HX6:Hid (Only (fun _=>False) wr x1.drew):=o2 HX1.out (Only.drew _ _)
            obtain ⟨w5,hw5⟩:=exq (x1.drew)
            rw [hw5] at HX6 ⊢
            clear hw5
            have HQ6:=hide (HQ3.out.more (o2 HM.out HX6.out))
            have HO5:=hide (o2 HO3.out (o2 HM.out HX6.out))
            obtain ⟨q0,q1,q2,q3,q4,q5,g0,g1,g2,g3,g4,g5,ql⟩:=HQ6.out
            go_wp2_with fail
            refine bodyPost_ret (results_page rfl rfl (Pag.six HQ6.out _ _ _ _ _ _)) rfl ?_
            exact ⟨fun _=>resErr _ HO5.out (by omega),fun _ _ _ h1=>absurd (by rw [← HXE.out]; exact HIN.out) h1⟩
          · rw [decide_eq_false hrq] at hqe
            have HNI:Hid (e ∉ ks.map Prod.fst):=HXE.out ▸ not_mem_at HRI.out HTK.out (fun _=>by rw [HQM.out]; exact ⟨HRL.out,hrq⟩)
            have HPM:Hid (K=m):=HKP.out.symm.trans (plE_atF HRI.out hm HTK.out (fun _=>by rw [HQM.out]; exact HRL.out))
            clear hrq
            -- {r8b
            refine wp_region_noPanic ?_
            refine wp_region_held_drew (S:=fun W=>Only (fun _=>False) wr W) (by kernel_rfl) (o2 HX1.out (Only.drew _ _)) (fun hHeld=>?_)
            refine tkP 0 (.int .i64 (m:Int)) rfl ?_
            refine tkP 1 (.slice (some ⟨BQ,oq,none⟩) es.length C) rfl ?_
            refine tkP 2 (.int .i64 (es.length:Int)) rfl ?_
            refine tkP 3 (.bool true) rfl ?_
            refine tkP 4 (.bool true) rfl ?_
            refine tkP 5 (.slice (some ⟨BQ,oq,none⟩) es.length C) rfl ?_
            refine tkP 6 (.int .i64 (m:Int)) rfl ?_
            refine tkQ 9 (.agg #[.string e.key,.int .i64 e.page,.int .i64 e.slot]) rfl (yieldsIf_load_ev (by rfl) _ rfl rfl (fun W hW=>HV4.out.more hW)) ?_
            refine tkP 7 (.pointer (some ⟨BQ,oq+m * 3,none⟩)) rfl ?_
            refine tkQ 8 (.agg #[.string g.key,.int .i64 g.page,.int .i64 g.slot]) rfl (yieldsIf_load_eb (by rfl) _ rfl rfl (fun W hW=>HQ5.out.more hW)) ?_
            refine tkP 10 (.bool false) rfl ?_
            refine tkP 11 (.bool false) rfl ?_
            refine dnN ?_
            -- r8b}
            have HX6:Hid (Only (fun _=>False) wr x1.drew):=o2 HX1.out (Only.drew _ _)
            obtain ⟨w5,hw5⟩:=exq (x1.drew)
            rw [hw5] at HX6 ⊢
            clear hw5 hqe HX1
            have HP5:=hide (HP3.out.more (o2 HM.out HX6.out))
            have HV5:=hide (HV3.out.more (o2 HM.out HX6.out))
            have HG5:=hide (HQ3.out.more (o2 HM.out HX6.out))
            have HO5:=hide (o2 HO3.out (o2 HM.out HX6.out))
            obtain rfl:=HPM.out
            obtain ⟨d0,d1,d2,_⟩:=HV5.out
            go_wp2_with fail
            refine (HRW0.out _).mono ?_
            rintro x x1 ⟨rfl,hx1⟩
            have HX1:=hide hx1
            have HP6:=hide (HP5.out.more hx1)
            clear hx1 d0 d1 d2
            obtain ⟨p0,p1,p2,p3,p4,p5,_⟩:=HP6.out
            go_wp2_with fail
            refine (HPT0.out _ (o2 HO5.out HX1.out)).mono ?_
            rintro x x2 ⟨p,k,⟨B5,ao5,cp5,rfl,hS5,hF5,ho5,hB5⟩,hpk⟩
            have HX2:=hide ho5
            have HS7:=hide (And.intro hS5 (And.intro hF5 hB5))
            have HPK:=hide hpk
            have HQ7:=hide (HG5.out.more (o2 HX1.out HX2.out))
            have HZ7:Hid (w.heap.size+1+1 < x1.heap.size):=(HG5.out.more HX1.out).lt
            obtain ⟨q0,q1,q2,q3,q4,q5,g0,g1,g2,g3,g4,g5,ql⟩:=HQ7.out
            clear hS5 hF5 ho5 hB5 hpk p0 p1 p2 p3 p4 p5
            go_wp2_with fail
            refine bodyPost_ret (results_page rfl rfl (Pag.six HQ7.out _ _ _ _ _ _)) rfl ?_
            have hres:=resSix (k:=k) HS7.out.1 HS7.out.2.1 HX2.out HS7.out.2.2 (o2 HO5.out HX1.out) (w.heap.size+1+1) (by omega) HZ7.out (.int .i64 p.lsn) (.int .i64 p.kind) (.int .i64 p.level) (.int .i64 p.right) (.string p.high) (.slice ao5 p.items.length cp5)
            refine ⟨fun h1=>?_,fun _ _ _ _=>?_⟩
            · rcases h1 with h1 | h1 | h1 | h1
              · rw [HOK.out] at h1; cases h1
              · rw [HBN.out] at h1; cases h1
              · rw [HCO.out] at h1; cases h1
              · exact absurd h1 HNI.out
            · rcases HPK.out with ⟨k1,rfl,rfl⟩ | ⟨k1,rfl,rfl⟩
              · exact Or3.yes k1 hres
              · exact Or3.no k1 hres
      · have hm1:¬ (m:Int) < (es.length:Int):=by omega
        go_upto_region 8 with fail
        -- {r6c
        refine wp_region_noPanic ?_
        refine wp_region_held_drew (S:=fun W=>Only (fun _=>False) wr W) (by kernel_rfl) (Only.drew _ _) (fun hHeld=>?_)
        refine tkP 0 (.int .i64 (m:Int)) rfl ?_
        refine tkP 1 (.slice A es.length C) rfl ?_
        refine tkP 2 (.int .i64 (es.length:Int)) rfl ?_
        refine tkP 3 (.bool false) rfl ?_
        refine tkP 4 (.bool false) rfl ?_
        refine tkQ 5 undef rfl (Or.inr ⟨by rfl,rfl⟩) ?_
        refine tkQ 6 undef rfl (Or.inr ⟨by rfl,rfl⟩) ?_
        refine tkQ 9 undef rfl (Or.inr ⟨by rfl,rfl⟩) ?_
        refine tkQ 7 undef rfl (Or.inr ⟨by rfl,rfl⟩) ?_
        refine tkQ 8 undef rfl (Or.inr ⟨by rfl,rfl⟩) ?_
        refine tkQ 10 undef rfl (Or.inr ⟨by rfl,rfl⟩) ?_
        refine tkQ 11 undef rfl (Or.inr ⟨by rfl,rfl⟩) ?_
        refine tkP 12 (.bool false) rfl ?_
        refine dnN ?_
        -- r6c}
        go_upto_region 10 with fail
        -- {r8c
        refine wp_region_noPanic ?_
        refine wp_region_held_drew (S:=fun W=>Only (fun _=>False) wr W) (by kernel_rfl) (o2 (Only.drew _ _) (Only.drew _ _)) (fun hHeld=>?_)
        refine tkP 0 (.int .i64 (m:Int)) rfl ?_
        refine tkP 1 (.slice A es.length C) rfl ?_
        refine tkP 2 (.int .i64 (es.length:Int)) rfl ?_
        refine tkP 3 (.bool false) rfl ?_
        refine tkP 4 (.bool false) rfl ?_
        refine tkQ 5 undef rfl (Or.inr ⟨by rfl,rfl⟩) ?_
        refine tkQ 6 undef rfl (Or.inr ⟨by rfl,rfl⟩) ?_
        refine tkQ 9 undef rfl (Or.inr ⟨by rfl,rfl⟩) ?_
        refine tkQ 7 undef rfl (Or.inr ⟨by rfl,rfl⟩) ?_
        refine tkQ 8 undef rfl (Or.inr ⟨by rfl,rfl⟩) ?_
        refine tkQ 10 undef rfl (Or.inr ⟨by rfl,rfl⟩) ?_
        refine tkP 11 (.bool false) rfl ?_
        refine dnN ?_
        -- r8c}
        have HX6:Hid (Only (fun _=>False) wr wr.drew.drew):=o2 (Only.drew _ _) (Only.drew _ _)
        obtain ⟨w5,hw5⟩:=exq (wr.drew.drew)
        rw [hw5] at HX6 ⊢
        clear hw5
        have HNI:Hid (e ∉ ks.map Prod.fst):=HXE.out ▸ not_mem_at HRI.out HTK.out (fun k=>by omega)
        have HPM:Hid (K=m):=HKP.out.symm.trans (plE_atF HRI.out hm HTK.out (fun k=>by omega))
        have HP5:=hide (HP3.out.more (o2 HM.out HX6.out))
        have HV5:=hide (HV3.out.more (o2 HM.out HX6.out))
        have HG5:=hide (HQ3.out.more (o2 HM.out HX6.out))
        have HO5:=hide (o2 HO3.out (o2 HM.out HX6.out))
        obtain rfl:=HPM.out
        obtain ⟨d0,d1,d2,_⟩:=HV5.out
        go_wp2_with fail
        refine (HRW0.out _).mono ?_
        rintro x x1 ⟨rfl,hx1⟩
        have HX1:=hide hx1
        have HP6:=hide (HP5.out.more hx1)
        clear hx1 d0 d1 d2
        obtain ⟨p0,p1,p2,p3,p4,p5,_⟩:=HP6.out
        go_wp2_with fail
        refine (HPT0.out _ (o2 HO5.out HX1.out)).mono ?_
        rintro x x2 ⟨p,k,⟨B5,ao5,cp5,rfl,hS5,hF5,ho5,hB5⟩,hpk⟩
        have HX2:=hide ho5
        have HS7:=hide (And.intro hS5 (And.intro hF5 hB5))
        have HPK:=hide hpk
        have HQ7:=hide (HG5.out.more (o2 HX1.out HX2.out))
        have HZ7:Hid (w.heap.size+1+1 < x1.heap.size):=(HG5.out.more HX1.out).lt
        obtain ⟨q0,q1,q2,q3,q4,q5,g0,g1,g2,g3,g4,g5,ql⟩:=HQ7.out
        clear hS5 hF5 ho5 hB5 hpk p0 p1 p2 p3 p4 p5
        go_wp2_with fail
        refine bodyPost_ret (results_page rfl rfl (Pag.six HQ7.out _ _ _ _ _ _)) rfl ?_
        have hres:=resSix (k:=k) HS7.out.1 HS7.out.2.1 HX2.out HS7.out.2.2 (o2 HO5.out HX1.out) (w.heap.size+1+1) (by omega) HZ7.out (.int .i64 p.lsn) (.int .i64 p.kind) (.int .i64 p.level) (.int .i64 p.right) (.string p.high) (.slice ao5 p.items.length cp5)
        refine ⟨fun h1=>?_,fun _ _ _ _=>?_⟩
        · rcases h1 with h1 | h1 | h1 | h1
          · rw [HOK.out] at h1; cases h1
          · rw [HBN.out] at h1; cases h1
          · rw [HCO.out] at h1; cases h1
          · exact absurd h1 HNI.out
        · rcases HPK.out with ⟨k1,rfl,rfl⟩ | ⟨k1,rfl,rfl⟩
          · exact Or3.yes k1 hres
          · exact Or3.no k1 hres
end Go.Proofs.YtipkeeobmihogaaGreat
