/- Parts. -/
import Derived.Test.YtipkeeobmihogaaGreatK34
import Derived.Test.YtipkeeobmihogaaGreatK30
import Derived.Test.YtipkeeobmihogaaGreatK35
set_option maxRecDepth 100000
namespace Go.Proofs.YtipkeeobmihogaaGreat
open Go.RowKit
structure Fc (w W:World) (a v r:Int) (h:ByteArray) (ao:Option Addr) (n cp hb lb:Nat) (hi la:En):Prop where
  pag:Pag W w.heap.size (.int .i64 a) (.int .i64 3) (.int .i64 v) (.int .i64 r) (.string h) (.slice ao n cp)
  hv:Ev W hb hi
  lv:Ev W lb la
  ne:hb≠lb
  hl:w.heap.size < hb
  ll:w.heap.size < lb
  only:Only (fun _=>False) w W
theorem Fc.more {w W W':World} {a v r:Int} {h:ByteArray} {ao:Option Addr} {n cp hb lb:Nat} {hi la:En} (H:Fc w W a v r h ao n cp hb lb hi la) (ho:Only (fun _=>False) W W'):Fc w W' a v r h ao n cp hb lb hi la :=
  ⟨H.pag.more ho,H.hv.more ho,H.lv.more ho,H.ne,H.hl,H.ll,o2 H.only ho⟩
theorem Fc.next {w W:World} {a v r:Int} {h:ByteArray} {ao:Option Addr} {n cp hb lb:Nat} {hi la:En} (H:Fc w W a v r h ao n cp hb lb hi la) (e:En):Fc w (((W.setCell ⟨lb,0,none⟩ (.string e.key)).setCell ⟨lb,1,none⟩ (.int .i64 e.page)).setCell ⟨lb,2,none⟩ (.int .i64 e.slot)) a v r h ao n cp hb lb hi e:=by
  have hs:=Only.three W lb (.string e.key) (.int .i64 e.page) (.int .i64 e.slot)
  have h1:=H.ll
  exact ⟨H.pag.kept hs (by omega),H.hv.kept hs H.ne,H.lv.all e,H.ne,H.hl,H.ll,H.only.trans hs (fun i hi e=>by omega)⟩
theorem decE_empty:decE (bl (⟨#[]⟩:ByteArray))=none:=by
  cases h:decE (bl (⟨#[]⟩:ByteArray)) with
  | none=>rfl
  | some e=>
    obtain ⟨_,o2⟩:=decE_some h
    have:e.enc=⟨#[]⟩:=by
      unfold En.enc
      rw [← o2,str_bl]
    exact absurd this enc_ne
set_option maxHeartbeats 6400000 in
theorem fcheck_leaf0 (w:World) (a r:Int) (B cp:Nat) (ao:Option Addr) (l:List ByteArray) (hS:Strs w B ao l) (hr:nm r=true) (hO:(Pg.out ⟨a,3,0,r,⟨#[]⟩,l⟩).2=0) (hh:(⟨#[]⟩:ByteArray).size≤140737488355328) (ha:a < 9223372036854775808) :
    Calls Tryz.prog 41 #[pgv a 3 0 r ⟨#[]⟩ ao l.length cp] w fun x w'=>x=.returned (.int .i64 (ckC (rdL noE noE l).isSome))∧Only (fun _=>False) w w':=by
  have hfit:=(out_zero hO).2
  have hl255:l.length≤255:=hfit.2.1
  have HIT:Hid (∀ (j:Nat) (hj:j < l.length),l[j].size≤512):=fun j hj=>by
    have h1:=hfit.2.2
    unfold Pg.size at h1
    simp only [] at h1
    have h2:=isz_mem (List.getElem_mem hj)
    omega
  have HP:=hide (Pag.new w (.int .i64 a) (.int .i64 3) (.int .i64 0) (.int .i64 r) (.string ⟨#[]⟩) (.slice ao l.length cp))
  have HO:=hide (onlyA w (.cells #[.int .i64 a,.int .i64 3,.int .i64 0,.int .i64 r,.string ⟨#[]⟩,.slice ao l.length cp] 24))
  have HE:Hid (∀ W,Only (fun _=>False) w W→Calls Tryz.prog 87 #[.agg #[.int .i64 a,.int .i64 3,.int .i64 0,.int .i64 r,.string ⟨#[]⟩,.slice ao l.length cp]] W fun x w'=>(∃ s,x=.returned (.tuple #[.string s,.int .i64 0]))∧Only (fun _=>False) W w'):=fun W ho=>by
    refine (yencode_any W a 3 0 r ⟨#[]⟩ B cp ao l (hS.more ho) hh ha).mono ?_
    rintro x w' ⟨rfl,ho'⟩
    exact ⟨⟨_,by rw [hO]⟩,ho'⟩
  have HSM:Hid (∀ W,Calls Tryz.prog 88 #[.int .i64 r] W fun e w'=>e=.returned (.bool true)∧w'=W):=fun W=>by
    have:=fsmall_any r W
    rwa [hr] at this
  have HDH:Hid (∀ W,Calls Tryz.prog 25 #[.string ⟨#[]⟩] W fun e w'=>e=.returned (.tuple #[.agg #[.string ⟨#[]⟩,.int .i64 0,.int .i64 0],.int .i64 140])∧Only (fun _=>False) W w'):=fun W=>by
    have:=fdecode_any ⟨#[]⟩ W (by unfold maxLen; have:=hh; omega)
    rw [decE_empty] at this
    exact this
  have HS:=hide hS
  obtain ⟨z,hz⟩:=exq (ckC (rdL noE noE l).isSome)
  rw [hz]
  have HZ:=hide hz
  clear hS hO hh ha hz hr hfit 
  unfold pgv
  go_enter Tryz.func41,Tryz.ntmps41
  go_upto_region 1 with fail
  obtain ⟨W0,hW0⟩:=exq (w.alloc (.cells #[.int .i64 a,.int .i64 3,.int .i64 0,.int .i64 r,.string ⟨#[]⟩,.slice ao l.length cp] 24))
  rw [hW0] at HP HO ⊢
  clear hW0
  obtain ⟨p0,p1,p2,p3,p4,p5,_⟩:=HP.out
  go_wp2_with fail
  refine (HE.out _ HO.out).mono ?_
  rintro x w1 ⟨⟨s,rfl⟩,ho⟩
  have HP1:=hide (HP.out.more ho)
  have HO1:=hide (o2 HO.out ho)
  have HB1:Hid (w.heap.size < w1.heap.size):=HP1.out.lt
  clear ho p0 p1 p2 p3 p4 p5 HP HO HE
  obtain ⟨p0,p1,p2,p3,p4,p5,_⟩:=HP1.out
  go_wp2_with fail
  refine (HSM.out _).mono ?_
  rintro x w2 ⟨rfl,hw⟩
  obtain rfl:=hw.symm
  go_wp2_with fail
  refine (HDH.out _).mono ?_
  rintro x w3 ⟨rfl,ho⟩
  have HP3:=hide (HP1.out.more ho)
  have HO3:=hide (o2 HO1.out ho)
  have HB3:Hid (w.heap.size < w3.heap.size):=HP3.out.lt
  clear ho p0 p1 p2 p3 p4 p5 HP1 HO1 HB1 HDH HSM
  go_upto_region 5 with fail
  have HA:=hide (onlyA w3 (.cells #[.string ⟨#[]⟩,.int .i64 0,.int .i64 0] 41))
  have HV:Hid (Ev (w3.alloc (.cells #[.string ⟨#[]⟩,.int .i64 0,.int .i64 0] 41)) w3.heap.size noE):=Ev.new w3 noE
  obtain ⟨hb,hhb⟩:=exq (w3.heap.size)
  rw [hhb] at HV HB3 ⊢
  clear hhb
  obtain ⟨w4,hw4⟩:=exq (w3.alloc (.cells #[.string ⟨#[]⟩,.int .i64 0,.int .i64 0] 41))
  rw [hw4] at HA HV ⊢
  clear hw4
  have HP4:=hide (HP3.out.more HA.out)
  have HO4:=hide (o2 HO3.out HA.out)
  clear HA HP3 HO3
  obtain ⟨p0,p1,p2,p3,p4,p5,_⟩:=HP4.out
  go_upto_region 8 with fail
  have HA:=hide (onlyA w4 (.cells #[.string ⟨#[]⟩,.int .i64 0,.int .i64 0] 41))
  have HLV:=hide (Ev.zero w4)
  have HBV:Hid (hb < w4.heap.size):=HV.out.lt
  obtain ⟨lb,hlb⟩:=exq (w4.heap.size)
  rw [hlb] at HLV HBV ⊢
  clear hlb
  obtain ⟨w5,hw5⟩:=exq (w4.alloc (.cells #[.string ⟨#[]⟩,.int .i64 0,.int .i64 0] 41))
  rw [hw5] at HA HLV ⊢
  clear hw5
  have HF0:Hid (Fc w w5 a 0 r ⟨#[]⟩ ao l.length cp hb lb noE noE):=⟨HP4.out.more HA.out,HV.out.more HA.out,HLV.out,by have:=HBV.out; omega,HB3.out,by have:=HBV.out; have:=HB3.out; omega,o2 HO4.out HA.out⟩
  clear HA HLV HV HP4 HO4 HBV HB3 p0 p1 p2 p3 p4 p5
  go_upto_region 9 with fail
  go_loopw [8] (fun i wr=>∃ (j:Nat) (la:En),j≤l.length∧i=.int .i64 (j:Int)∧Hid (j=0→la=noE)∧Hid (Fc w wr a 0 r ⟨#[]⟩ ao l.length cp hb lb noE la)∧Hid ((rdL noE noE l).isSome=(rdL noE la (l.drop j)).isSome)) (fun i _=>l.length - (intOf i).toNat)
  case atStart=>exact ⟨0,noE,Nat.zero_le _,rfl,hide (fun _=>rfl),HF0,hide (by simp)⟩
  case round=>
    clear HF0
    obtain ⟨j,la,hj,rfl,HJ0,HFj,HRD⟩:=hrel
    have p2:=HFj.out.pag.c2
    have p4:=HFj.out.pag.c4
    have p5:=HFj.out.pag.c5
    by_cases hlt:j < l.length
    · obtain ⟨o,rfl,hc⟩:=(HS.out.more HFj.out.only).at_ (by omega)
      have ck:=hc j hlt
      have hlk:(j:Int) < (l.length:Int):=by omega
      have hlk2:¬ (l.length:Int)≤(j:Int):=by omega
      have hsz:=HIT.out j hlt
      rw [List.drop_eq_getElem_cons hlt] at HRD
      obtain ⟨s,hs⟩:=exq (l[j])
      rw [hs] at ck HRD hsz
      clear hc hs
      cases hd2:decE (bl s) with
      | none=>
        have HDC:Hid (∀ W,Calls Tryz.prog 25 #[.string s] W fun e w'=>e=.returned (.tuple #[.agg #[.string ⟨#[]⟩,.int .i64 0,.int .i64 0],.int .i64 140])∧Only (fun _=>False) W w'):=fun W=>by
          have:=fdecode_any s W (by unfold maxLen; omega)
          rw [hd2] at this
          exact this
        have HF:Hid (140=z):=by
          rw [← HZ.out,HRD.out,rdL,hd2]
          rfl
        clear HRD HZ hd2 hsz
        go_wp2_with fail
        refine (HDC.out _).mono ?_
        rintro x w6 ⟨rfl,ho⟩
        have HF6:=hide (HFj.out.more (o2 ho (onlyA w6 (.cells #[.string ⟨#[]⟩,.int .i64 0,.int .i64 0] 41))))
        clear ho p2 p4 p5 ck HFj HDC
        go_upto_region 12 with fail
        obtain ⟨xb,hxb⟩:=exq (w6.heap.size)
        rw [hxb]
        clear hxb
        obtain ⟨W6,hW6⟩:=exq (w6.alloc (.cells #[.string ⟨#[]⟩,.int .i64 0,.int .i64 0] 41))
        rw [hW6] at HF6 ⊢
        clear hW6
        have p2:=HF6.out.pag.c2
        have HOX:=hide HF6.out.only
        go_wp2_with fail
        go_ret
        obtain rfl:=HF.out
        exact ⟨rfl,HOX.out⟩
      | some e=>
        have hok:e.ok=true:=(decE_some hd2).1
        have HDC:Hid (∀ W,Calls Tryz.prog 25 #[.string s] W fun x w'=>x=.returned (.tuple #[.agg #[.string e.key,.int .i64 e.page,.int .i64 e.slot],.int .i64 0])∧Only (fun _=>False) W w'):=fun W=>by
          have:=fdecode_any s W (by unfold maxLen; omega)
          rw [hd2] at this
          exact this
        have HRE:Hid ((rdL noE noE l).isSome=(if la.lt e∧byd noE e=false then (rdL noE e (l.drop (j+1))).map (fun es=>e :: es) else none).isSome):=by
          unfold Hid
          rw [HRD.out,rdL,hd2]
        have HOK:=hide hok
        clear HRD hd2 hsz hok
        go_wp2_with fail
        refine (HDC.out _).mono ?_
        rintro x w6 ⟨rfl,ho⟩
        have HFX:=hide (HFj.out.more (o2 ho (onlyA w6 (.cells #[.string e.key,.int .i64 e.page,.int .i64 e.slot] 41))))
        have HXE:=hide (Ev.new w6 e)
        clear ho p2 p4 p5 ck HFj HDC
        go_upto_region 12 with fail
        obtain ⟨xb,hxb⟩:=exq (w6.heap.size)
        rw [hxb] at HXE ⊢
        clear hxb
        obtain ⟨W6,hW6⟩:=exq (w6.alloc (.cells #[.string e.key,.int .i64 e.page,.int .i64 e.slot] 41))
        rw [hW6] at HFX HXE ⊢
        clear hW6
        have p2:=HFX.out.pag.c2
        go_upto_region 16 with fail
        go_cut [114] (fun x wx=>∃ b:Bool,x=.bool b∧Hid (b=true ↔ ¬ (j=0∨la.lt e))∧Hid (Only (fun _=>False) W6 wx))
        case first=>
          by_cases hj0:j=0
          · subst hj0
            go_wp2_with fail
            go_meet
            exact ⟨false,rfl,hide (by simp),hide (Only.refl _ _)⟩
          · have hjp:(0:Int) < (j:Int):=by omega
            have HCM:Hid (∀ W,Calls Tryz.prog 56 #[.agg #[.string la.key,.int .i64 la.page,.int .i64 la.slot],.agg #[.string e.key,.int .i64 e.page,.int .i64 e.slot]] W fun x w'=>x=.returned (.int .i64 (cmpE la e))∧Only (fun _=>False) W w'):=fun W=>fcompare_any la e W
            have hcn:=cmpE_neg (a:=la) (b:=e)
            obtain ⟨c,hc⟩:=exq (cmpE la e)
            rw [hc] at HCM hcn
            have HCN:=hide hcn
            clear hc hcn
            obtain ⟨d0,d1,d2,_⟩:=HXE.out
            obtain ⟨t0,t1,t2,_⟩:=HFX.out.lv
            go_wp2_with fail
            refine (HCM.out _).mono ?_
            rintro x w7 ⟨rfl,ho⟩
            have HO7:=hide ho
            clear ho
            by_cases hc0:(0:Int)≤c
            · have HNL:Hid (¬ (j=0∨la.lt e)):=fun k=>by
                rcases k with k | k
                · exact hj0 k
                · have:=HCN.out.2 k
                  omega
              clear HCN
              go_wp2_with fail
              go_meet
              exact ⟨true,rfl,hide ⟨fun _=>HNL.out,fun _=>rfl⟩,HO7⟩
            · have HNL:Hid (la.lt e):=HCN.out.1 (by omega)
              clear HCN
              go_wp2_with fail
              go_meet
              exact ⟨false,by rw [decide_eq_false (by omega)],hide ⟨(fun k=>by cases k),fun k=>absurd (Or.inr HNL.out) k⟩,HO7⟩
        case rest=>
          obtain ⟨bb,rfl,HB,HO6⟩:=hcut
          obtain ⟨w7,hw7⟩:=exq (wc)
          rw [hw7] at HO6 ⊢
          clear hw7
          have HF7:=hide (HFX.out.more HO6.out)
          have HE7:=hide (HXE.out.more HO6.out)
          clear HO6 HFX HXE
          have p2:=HF7.out.pag.c2
          have p4:=HF7.out.pag.c4
          have p5:=HF7.out.pag.c5
          cases bb with
          | true=>
            have HF:Hid (140=z):=by
              have hb:=HB.out.1 rfl
              rw [← HZ.out,HRE.out,if_neg (fun k=>hb (.inr k.1))]
              rfl
            have HOX:=hide HF7.out.only
            clear HB HRE HZ
            go_wp2_with fail
            go_ret
            obtain rfl:=HF.out
            exact ⟨rfl,HOX.out⟩
          | false=>
            have HLT:Hid (j=0∨la.lt e):=Classical.byContradiction fun k=>by have:=HB.out.2 k; cases this
            clear HB
            have HRN:Hid ((rdL noE noE l).isSome=(rdL noE e (l.drop (j+1))).isSome):=by
              unfold Hid
              rw [HRE.out,if_pos ⟨by
                  rcases HLT.out with k | k
                  · rw [HJ0.out k]; exact noE_lt HOK.out
                  · exact k,byd_noE e⟩,Option.isSome_map]
            clear HRE
            obtain ⟨d0,d1,d2,_⟩:=HE7.out
            obtain ⟨t0,t1,t2,f0,f1,f2,_⟩:=HF7.out.lv
            have HFN:=hide (HF7.out.next e)
            go_wp2_with fail
            go_roundw
            case rel=>exact ⟨j+1,e,by omega,by go_num,hide (fun h=>by omega),HFN,HRN⟩
            case measure=>simp [intOf]; omega
    · have hlk:¬ (j:Int) < (l.length:Int):=by omega
      have HF:Hid (0=z):=by
        rw [← HZ.out,HRD.out,List.drop_of_length_le (by omega)]
        rw [rdL]
        rfl
      have HOX:=hide HFj.out.only
      clear HRD HZ
      go_wp2_with fail
      go_ret
      obtain rfl:=HF.out
      exact ⟨rfl,HOX.out⟩
set_option maxHeartbeats 6400000 in
theorem fcheck_leafH (w:World) (a r:Int) (h:ByteArray) (hi:En) (B cp:Nat) (ao:Option Addr) (l:List ByteArray) (hS:Strs w B ao l) (hr:nm r=true) (hx:¬ h=⟨#[]⟩) (hd:decE (bl h)=some hi) (hO:(Pg.out ⟨a,3,0,r,h,l⟩).2=0) (hh:(h:ByteArray).size≤140737488355328) (ha:a < 9223372036854775808) :
    Calls Tryz.prog 41 #[pgv a 3 0 r h ao l.length cp] w fun x w'=>x=.returned (.int .i64 (ckC (rdL hi noE l).isSome))∧Only (fun _=>False) w w':=by
  have hfit:=(out_zero hO).2
  have hl255:l.length≤255:=hfit.2.1
  have HIT:Hid (∀ (j:Nat) (hj:j < l.length),l[j].size≤512):=fun j hj=>by
    have h1:=hfit.2.2
    unfold Pg.size at h1
    simp only [] at h1
    have h2:=isz_mem (List.getElem_mem hj)
    omega
  have HP:=hide (Pag.new w (.int .i64 a) (.int .i64 3) (.int .i64 0) (.int .i64 r) (.string h) (.slice ao l.length cp))
  have HO:=hide (onlyA w (.cells #[.int .i64 a,.int .i64 3,.int .i64 0,.int .i64 r,.string h,.slice ao l.length cp] 24))
  have HE:Hid (∀ W,Only (fun _=>False) w W→Calls Tryz.prog 87 #[.agg #[.int .i64 a,.int .i64 3,.int .i64 0,.int .i64 r,.string h,.slice ao l.length cp]] W fun x w'=>(∃ s,x=.returned (.tuple #[.string s,.int .i64 0]))∧Only (fun _=>False) W w'):=fun W ho=>by
    refine (yencode_any W a 3 0 r h B cp ao l (hS.more ho) hh ha).mono ?_
    rintro x w' ⟨rfl,ho'⟩
    exact ⟨⟨_,by rw [hO]⟩,ho'⟩
  have HSM:Hid (∀ W,Calls Tryz.prog 88 #[.int .i64 r] W fun e w'=>e=.returned (.bool true)∧w'=W):=fun W=>by
    have:=fsmall_any r W
    rwa [hr] at this
  have HDH:Hid (∀ W,Calls Tryz.prog 25 #[.string h] W fun e w'=>e=.returned (.tuple #[.agg #[.string hi.key,.int .i64 hi.page,.int .i64 hi.slot],.int .i64 0])∧Only (fun _=>False) W w'):=fun W=>by
    have:=fdecode_any h W (by unfold maxLen; have:=hh; omega)
    rw [hd] at this
    exact this
  have HS:=hide hS
  obtain ⟨z,hz⟩:=exq (ckC (rdL hi noE l).isSome)
  rw [hz]
  have HZ:=hide hz
  have hne:=ba_neN (s:=h) (t:=⟨#[]⟩) hx
  have hne':¬ h.toList=[]:=by
    have h2:¬ h.toList=(⟨#[]⟩:ByteArray).toList:=by simpa using hne
    rw [ByteArray.toList_eq ⟨#[]⟩] at h2
    exact h2
  have hn1:(h.toList == [])=false:=by simpa using hne'
  have hn2:h.toList.isEmpty=false:=by
    cases e:h.toList with
    | nil=>exact absurd e hne'
    | cons _ _=>rfl
  have HOKH:Hid (hi.ok=true):=(decE_some hd).1
  have HNEH:Hid (hi≠noE):=En.ok_ne HOKH.out
  clear hS hO hh ha hz hr hfit hx hd hne
  unfold pgv
  go_enter Tryz.func41,Tryz.ntmps41
  go_upto_region 1 with fail
  obtain ⟨W0,hW0⟩:=exq (w.alloc (.cells #[.int .i64 a,.int .i64 3,.int .i64 0,.int .i64 r,.string h,.slice ao l.length cp] 24))
  rw [hW0] at HP HO ⊢
  clear hW0
  obtain ⟨p0,p1,p2,p3,p4,p5,_⟩:=HP.out
  go_wp2_with fail
  refine (HE.out _ HO.out).mono ?_
  rintro x w1 ⟨⟨s,rfl⟩,ho⟩
  have HP1:=hide (HP.out.more ho)
  have HO1:=hide (o2 HO.out ho)
  have HB1:Hid (w.heap.size < w1.heap.size):=HP1.out.lt
  clear ho p0 p1 p2 p3 p4 p5 HP HO HE
  obtain ⟨p0,p1,p2,p3,p4,p5,_⟩:=HP1.out
  go_wp2_with fail
  refine (HSM.out _).mono ?_
  rintro x w2 ⟨rfl,hw⟩
  obtain rfl:=hw.symm
  go_wp2_with fail
  refine (HDH.out _).mono ?_
  rintro x w3 ⟨rfl,ho⟩
  have HP3:=hide (HP1.out.more ho)
  have HO3:=hide (o2 HO1.out ho)
  have HB3:Hid (w.heap.size < w3.heap.size):=HP3.out.lt
  clear ho p0 p1 p2 p3 p4 p5 HP1 HO1 HB1 HDH HSM
  go_upto_region 5 with fail
  have HA:=hide (onlyA w3 (.cells #[.string hi.key,.int .i64 hi.page,.int .i64 hi.slot] 41))
  have HV:Hid (Ev (w3.alloc (.cells #[.string hi.key,.int .i64 hi.page,.int .i64 hi.slot] 41)) w3.heap.size hi):=Ev.new w3 hi
  obtain ⟨hb,hhb⟩:=exq (w3.heap.size)
  rw [hhb] at HV HB3 ⊢
  clear hhb
  obtain ⟨w4,hw4⟩:=exq (w3.alloc (.cells #[.string hi.key,.int .i64 hi.page,.int .i64 hi.slot] 41))
  rw [hw4] at HA HV ⊢
  clear hw4
  have HP4:=hide (HP3.out.more HA.out)
  have HO4:=hide (o2 HO3.out HA.out)
  clear HA HP3 HO3
  obtain ⟨p0,p1,p2,p3,p4,p5,_⟩:=HP4.out
  go_upto_region 8 with fail
  have HA:=hide (onlyA w4 (.cells #[.string ⟨#[]⟩,.int .i64 0,.int .i64 0] 41))
  have HLV:=hide (Ev.zero w4)
  have HBV:Hid (hb < w4.heap.size):=HV.out.lt
  obtain ⟨lb,hlb⟩:=exq (w4.heap.size)
  rw [hlb] at HLV HBV ⊢
  clear hlb
  obtain ⟨w5,hw5⟩:=exq (w4.alloc (.cells #[.string ⟨#[]⟩,.int .i64 0,.int .i64 0] 41))
  rw [hw5] at HA HLV ⊢
  clear hw5
  have HF0:Hid (Fc w w5 a 0 r h ao l.length cp hb lb hi noE):=⟨HP4.out.more HA.out,HV.out.more HA.out,HLV.out,by have:=HBV.out; omega,HB3.out,by have:=HBV.out; have:=HB3.out; omega,o2 HO4.out HA.out⟩
  clear HA HLV HV HP4 HO4 HBV HB3 p0 p1 p2 p3 p4 p5
  go_upto_region 9 with fail
  go_loopw [8] (fun i wr=>∃ (j:Nat) (la:En),j≤l.length∧i=.int .i64 (j:Int)∧Hid (j=0→la=noE)∧Hid (Fc w wr a 0 r h ao l.length cp hb lb hi la)∧Hid ((rdL hi noE l).isSome=(rdL hi la (l.drop j)).isSome)) (fun i _=>l.length - (intOf i).toNat)
  case atStart=>exact ⟨0,noE,Nat.zero_le _,rfl,hide (fun _=>rfl),HF0,hide (by simp)⟩
  case round=>
    clear HF0
    obtain ⟨j,la,hj,rfl,HJ0,HFj,HRD⟩:=hrel
    have p2:=HFj.out.pag.c2
    have p4:=HFj.out.pag.c4
    have p5:=HFj.out.pag.c5
    by_cases hlt:j < l.length
    · obtain ⟨o,rfl,hc⟩:=(HS.out.more HFj.out.only).at_ (by omega)
      have ck:=hc j hlt
      have hlk:(j:Int) < (l.length:Int):=by omega
      have hlk2:¬ (l.length:Int)≤(j:Int):=by omega
      have hsz:=HIT.out j hlt
      rw [List.drop_eq_getElem_cons hlt] at HRD
      obtain ⟨s,hs⟩:=exq (l[j])
      rw [hs] at ck HRD hsz
      clear hc hs
      cases hd2:decE (bl s) with
      | none=>
        have HDC:Hid (∀ W,Calls Tryz.prog 25 #[.string s] W fun e w'=>e=.returned (.tuple #[.agg #[.string ⟨#[]⟩,.int .i64 0,.int .i64 0],.int .i64 140])∧Only (fun _=>False) W w'):=fun W=>by
          have:=fdecode_any s W (by unfold maxLen; omega)
          rw [hd2] at this
          exact this
        have HF:Hid (140=z):=by
          rw [← HZ.out,HRD.out,rdL,hd2]
          rfl
        clear HRD HZ hd2 hsz
        go_wp2_with fail
        refine (HDC.out _).mono ?_
        rintro x w6 ⟨rfl,ho⟩
        have HF6:=hide (HFj.out.more (o2 ho (onlyA w6 (.cells #[.string ⟨#[]⟩,.int .i64 0,.int .i64 0] 41))))
        clear ho p2 p4 p5 ck HFj HDC
        go_upto_region 12 with fail
        obtain ⟨xb,hxb⟩:=exq (w6.heap.size)
        rw [hxb]
        clear hxb
        obtain ⟨W6,hW6⟩:=exq (w6.alloc (.cells #[.string ⟨#[]⟩,.int .i64 0,.int .i64 0] 41))
        rw [hW6] at HF6 ⊢
        clear hW6
        have p2:=HF6.out.pag.c2
        have HOX:=hide HF6.out.only
        go_wp2_with fail
        go_ret
        obtain rfl:=HF.out
        exact ⟨rfl,HOX.out⟩
      | some e=>
        have hok:e.ok=true:=(decE_some hd2).1
        have HDC:Hid (∀ W,Calls Tryz.prog 25 #[.string s] W fun x w'=>x=.returned (.tuple #[.agg #[.string e.key,.int .i64 e.page,.int .i64 e.slot],.int .i64 0])∧Only (fun _=>False) W w'):=fun W=>by
          have:=fdecode_any s W (by unfold maxLen; omega)
          rw [hd2] at this
          exact this
        have HRE:Hid ((rdL hi noE l).isSome=(if la.lt e∧byd hi e=false then (rdL hi e (l.drop (j+1))).map (fun es=>e :: es) else none).isSome):=by
          unfold Hid
          rw [HRD.out,rdL,hd2]
        have HOK:=hide hok
        clear HRD hd2 hsz hok
        go_wp2_with fail
        refine (HDC.out _).mono ?_
        rintro x w6 ⟨rfl,ho⟩
        have HFX:=hide (HFj.out.more (o2 ho (onlyA w6 (.cells #[.string e.key,.int .i64 e.page,.int .i64 e.slot] 41))))
        have HXE:=hide (Ev.new w6 e)
        clear ho p2 p4 p5 ck HFj HDC
        go_upto_region 12 with fail
        obtain ⟨xb,hxb⟩:=exq (w6.heap.size)
        rw [hxb] at HXE ⊢
        clear hxb
        obtain ⟨W6,hW6⟩:=exq (w6.alloc (.cells #[.string e.key,.int .i64 e.page,.int .i64 e.slot] 41))
        rw [hW6] at HFX HXE ⊢
        clear hW6
        have p2:=HFX.out.pag.c2
        go_upto_region 16 with fail
        go_cut [114] (fun x wx=>∃ b:Bool,x=.bool b∧Hid (b=true ↔ ¬ (j=0∨la.lt e))∧Hid (Only (fun _=>False) W6 wx))
        case first=>
          by_cases hj0:j=0
          · subst hj0
            go_wp2_with fail
            go_meet
            exact ⟨false,rfl,hide (by simp),hide (Only.refl _ _)⟩
          · have hjp:(0:Int) < (j:Int):=by omega
            have HCM:Hid (∀ W,Calls Tryz.prog 56 #[.agg #[.string la.key,.int .i64 la.page,.int .i64 la.slot],.agg #[.string e.key,.int .i64 e.page,.int .i64 e.slot]] W fun x w'=>x=.returned (.int .i64 (cmpE la e))∧Only (fun _=>False) W w'):=fun W=>fcompare_any la e W
            have hcn:=cmpE_neg (a:=la) (b:=e)
            obtain ⟨c,hc⟩:=exq (cmpE la e)
            rw [hc] at HCM hcn
            have HCN:=hide hcn
            clear hc hcn
            obtain ⟨d0,d1,d2,_⟩:=HXE.out
            obtain ⟨t0,t1,t2,_⟩:=HFX.out.lv
            go_wp2_with fail
            refine (HCM.out _).mono ?_
            rintro x w7 ⟨rfl,ho⟩
            have HO7:=hide ho
            clear ho
            by_cases hc0:(0:Int)≤c
            · have HNL:Hid (¬ (j=0∨la.lt e)):=fun k=>by
                rcases k with k | k
                · exact hj0 k
                · have:=HCN.out.2 k
                  omega
              clear HCN
              go_wp2_with fail
              go_meet
              exact ⟨true,rfl,hide ⟨fun _=>HNL.out,fun _=>rfl⟩,HO7⟩
            · have HNL:Hid (la.lt e):=HCN.out.1 (by omega)
              clear HCN
              go_wp2_with fail
              go_meet
              exact ⟨false,by rw [decide_eq_false (by omega)],hide ⟨(fun k=>by cases k),fun k=>absurd (Or.inr HNL.out) k⟩,HO7⟩
        case rest=>
          obtain ⟨bb,rfl,HB,HO6⟩:=hcut
          obtain ⟨w7,hw7⟩:=exq (wc)
          rw [hw7] at HO6 ⊢
          clear hw7
          have HF7:=hide (HFX.out.more HO6.out)
          have HE7:=hide (HXE.out.more HO6.out)
          clear HO6 HFX HXE
          have p2:=HF7.out.pag.c2
          have p4:=HF7.out.pag.c4
          have p5:=HF7.out.pag.c5
          cases bb with
          | true=>
            have HF:Hid (140=z):=by
              have hb:=HB.out.1 rfl
              rw [← HZ.out,HRE.out,if_neg (fun k=>hb (.inr k.1))]
              rfl
            have HOX:=hide HF7.out.only
            clear HB HRE HZ
            go_wp2_with fail
            go_ret
            obtain rfl:=HF.out
            exact ⟨rfl,HOX.out⟩
          | false=>
            have HLT:Hid (j=0∨la.lt e):=Classical.byContradiction fun k=>by have:=HB.out.2 k; cases this
            clear HB
            have HCH:Hid (∀ W,Calls Tryz.prog 56 #[.agg #[.string e.key,.int .i64 e.page,.int .i64 e.slot],.agg #[.string hi.key,.int .i64 hi.page,.int .i64 hi.slot]] W fun x w'=>x=.returned (.int .i64 (cmpE e hi))∧Only (fun _=>False) W w'):=fun W=>fcompare_any e hi W
            have hcp:=cmpE_pos (a:=e) (b:=hi)
            obtain ⟨c,hc⟩:=exq (cmpE e hi)
            rw [hc] at HCH hcp
            have HCP:=hide hcp
            clear hc hcp
            obtain ⟨d0,d1,d2,_⟩:=HE7.out
            obtain ⟨s0,s1,s2,_⟩:=HF7.out.hv
            go_wp2_with fail
            refine (HCH.out _).mono ?_
            rintro x w8 ⟨rfl,ho⟩
            have HF8:=hide (HF7.out.more ho)
            have HE8:=hide (HE7.out.more ho)
            clear ho d0 d1 d2 s0 s1 s2 p2 p4 p5 HF7 HE7
            have p2:=HF8.out.pag.c2
            have p5:=HF8.out.pag.c5
            by_cases hc0:(0:Int) < c
            · have HF:Hid (140=z):=by
                rw [← HZ.out,HRE.out,if_neg (fun k=>by rw [byd_yes.2 ⟨HNEH.out,HCP.out.1 hc0⟩] at k; cases k.2)]
                rfl
              have HOX:=hide HF8.out.only
              clear HRE HZ HCP
              go_wp2_with fail
              go_ret
              obtain rfl:=HF.out
              exact ⟨rfl,HOX.out⟩
            · have HRN:Hid ((rdL hi noE l).isSome=(rdL hi e (l.drop (j+1))).isSome):=by
                unfold Hid
                rw [HRE.out,if_pos ⟨by
                  rcases HLT.out with k | k
                  · rw [HJ0.out k]; exact noE_lt HOK.out
                  · exact k,by
                  cases q:byd hi e with
                  | false=>rfl
                  | true=>exact absurd (HCP.out.2 (byd_yes.1 q).2) hc0⟩,Option.isSome_map]
              clear HRE HCP
              obtain ⟨d0,d1,d2,_⟩:=HE8.out
              obtain ⟨t0,t1,t2,f0,f1,f2,_⟩:=HF8.out.lv
              have HFN:=hide (HF8.out.next e)
              go_wp2_with fail
              go_roundw
              case rel=>exact ⟨j+1,e,by omega,by go_num,hide (fun h=>by omega),HFN,HRN⟩
              case measure=>simp [intOf]; omega
    · have hlk:¬ (j:Int) < (l.length:Int):=by omega
      have HF:Hid (0=z):=by
        rw [← HZ.out,HRD.out,List.drop_of_length_le (by omega)]
        rw [rdL]
        rfl
      have HOX:=hide HFj.out.only
      clear HRD HZ
      go_wp2_with fail
      go_ret
      obtain rfl:=HF.out
      exact ⟨rfl,HOX.out⟩
set_option maxHeartbeats 6400000 in
theorem fcheck_inner0 (w:World) (a v r:Int) (B cp:Nat) (ao:Option Addr) (l:List ByteArray) (hS:Strs w B ao l) (hv:0 < v∧v≤255) (hp:0 < l.length) (hr:nm r=true) (hO:(Pg.out ⟨a,3,v,r,⟨#[]⟩,l⟩).2=0) (hh:(⟨#[]⟩:ByteArray).size≤140737488355328) (ha:a < 9223372036854775808) :
    Calls Tryz.prog 41 #[pgv a 3 v r ⟨#[]⟩ ao l.length cp] w fun x w'=>x=.returned (.int .i64 (ckC (rdI noE none l).isSome))∧Only (fun _=>False) w w':=by
  have hfit:=(out_zero hO).2
  have hl255:l.length≤255:=hfit.2.1
  have HIT:Hid (∀ (j:Nat) (hj:j < l.length),l[j].size≤512):=fun j hj=>by
    have h1:=hfit.2.2
    unfold Pg.size at h1
    simp only [] at h1
    have h2:=isz_mem (List.getElem_mem hj)
    omega
  have HP:=hide (Pag.new w (.int .i64 a) (.int .i64 3) (.int .i64 v) (.int .i64 r) (.string ⟨#[]⟩) (.slice ao l.length cp))
  have HO:=hide (onlyA w (.cells #[.int .i64 a,.int .i64 3,.int .i64 v,.int .i64 r,.string ⟨#[]⟩,.slice ao l.length cp] 24))
  have HE:Hid (∀ W,Only (fun _=>False) w W→Calls Tryz.prog 87 #[.agg #[.int .i64 a,.int .i64 3,.int .i64 v,.int .i64 r,.string ⟨#[]⟩,.slice ao l.length cp]] W fun x w'=>(∃ s,x=.returned (.tuple #[.string s,.int .i64 0]))∧Only (fun _=>False) W w'):=fun W ho=>by
    refine (yencode_any W a 3 v r ⟨#[]⟩ B cp ao l (hS.more ho) hh ha).mono ?_
    rintro x w' ⟨rfl,ho'⟩
    exact ⟨⟨_,by rw [hO]⟩,ho'⟩
  have HSM:Hid (∀ W,Calls Tryz.prog 88 #[.int .i64 r] W fun e w'=>e=.returned (.bool true)∧w'=W):=fun W=>by
    have:=fsmall_any r W
    rwa [hr] at this
  have HDH:Hid (∀ W,Calls Tryz.prog 25 #[.string ⟨#[]⟩] W fun e w'=>e=.returned (.tuple #[.agg #[.string ⟨#[]⟩,.int .i64 0,.int .i64 0],.int .i64 140])∧Only (fun _=>False) W w'):=fun W=>by
    have:=fdecode_any ⟨#[]⟩ W (by unfold maxLen; have:=hh; omega)
    rw [decE_empty] at this
    exact this
  have HS:=hide hS
  obtain ⟨z,hz⟩:=exq (ckC (rdI noE none l).isSome)
  rw [hz]
  have HZ:=hide hz
  have hv1:¬ v < 0:=by omega
  have hv2:¬ (255:Int) < v:=by omega
  have hv3:(0:Int) < v:=by omega
  have hl0:((l.length:Int) == 0)=false:=by rw [beq_eq_false_iff_ne]; omega
  clear hS hO hh ha hz hr hfit hv hp
  unfold pgv
  go_enter Tryz.func41,Tryz.ntmps41
  go_upto_region 1 with fail
  obtain ⟨W0,hW0⟩:=exq (w.alloc (.cells #[.int .i64 a,.int .i64 3,.int .i64 v,.int .i64 r,.string ⟨#[]⟩,.slice ao l.length cp] 24))
  rw [hW0] at HP HO ⊢
  clear hW0
  obtain ⟨p0,p1,p2,p3,p4,p5,_⟩:=HP.out
  go_wp2_with fail
  refine (HE.out _ HO.out).mono ?_
  rintro x w1 ⟨⟨s,rfl⟩,ho⟩
  have HP1:=hide (HP.out.more ho)
  have HO1:=hide (o2 HO.out ho)
  have HB1:Hid (w.heap.size < w1.heap.size):=HP1.out.lt
  clear ho p0 p1 p2 p3 p4 p5 HP HO HE
  obtain ⟨p0,p1,p2,p3,p4,p5,_⟩:=HP1.out
  go_wp2_with fail
  refine (HSM.out _).mono ?_
  rintro x w2 ⟨rfl,hw⟩
  obtain rfl:=hw.symm
  go_wp2_with fail
  refine (HDH.out _).mono ?_
  rintro x w3 ⟨rfl,ho⟩
  have HP3:=hide (HP1.out.more ho)
  have HO3:=hide (o2 HO1.out ho)
  have HB3:Hid (w.heap.size < w3.heap.size):=HP3.out.lt
  clear ho p0 p1 p2 p3 p4 p5 HP1 HO1 HB1 HDH HSM
  go_upto_region 5 with fail
  have HA:=hide (onlyA w3 (.cells #[.string ⟨#[]⟩,.int .i64 0,.int .i64 0] 41))
  have HV:Hid (Ev (w3.alloc (.cells #[.string ⟨#[]⟩,.int .i64 0,.int .i64 0] 41)) w3.heap.size noE):=Ev.new w3 noE
  obtain ⟨hb,hhb⟩:=exq (w3.heap.size)
  rw [hhb] at HV HB3 ⊢
  clear hhb
  obtain ⟨w4,hw4⟩:=exq (w3.alloc (.cells #[.string ⟨#[]⟩,.int .i64 0,.int .i64 0] 41))
  rw [hw4] at HA HV ⊢
  clear hw4
  have HP4:=hide (HP3.out.more HA.out)
  have HO4:=hide (o2 HO3.out HA.out)
  clear HA HP3 HO3
  obtain ⟨p0,p1,p2,p3,p4,p5,_⟩:=HP4.out
  go_upto_region 8 with fail
  have HA:=hide (onlyA w4 (.cells #[.string ⟨#[]⟩,.int .i64 0,.int .i64 0] 41))
  have HLV:=hide (Ev.zero w4)
  have HBV:Hid (hb < w4.heap.size):=HV.out.lt
  obtain ⟨lb,hlb⟩:=exq (w4.heap.size)
  rw [hlb] at HLV HBV ⊢
  clear hlb
  obtain ⟨w5,hw5⟩:=exq (w4.alloc (.cells #[.string ⟨#[]⟩,.int .i64 0,.int .i64 0] 41))
  rw [hw5] at HA HLV ⊢
  clear hw5
  have HF0:Hid (Fc w w5 a v r ⟨#[]⟩ ao l.length cp hb lb noE noE):=⟨HP4.out.more HA.out,HV.out.more HA.out,HLV.out,by have:=HBV.out; omega,HB3.out,by have:=HBV.out; have:=HB3.out; omega,o2 HO4.out HA.out⟩
  clear HA HLV HV HP4 HO4 HBV HB3 p0 p1 p2 p3 p4 p5
  go_upto_region 9 with fail
  go_loopw [8] (fun i wr=>∃ (j:Nat) (la:En),j≤l.length∧i=.int .i64 (j:Int)∧Hid (j=0→la=noE)∧Hid (Fc w wr a v r ⟨#[]⟩ ao l.length cp hb lb noE la)∧Hid ((rdI noE none l).isSome=(rdI noE (if j=0 then none else some la) (l.drop j)).isSome)∧Hid (la.sp=true)) (fun i _=>l.length - (intOf i).toNat)
  case atStart=>exact ⟨0,noE,Nat.zero_le _,rfl,hide (fun _=>rfl),HF0,hide (by simp),hide (by decide)⟩
  case round=>
    clear HF0
    obtain ⟨j,la,hj,rfl,HJ0,HFj,HRD,HLS2⟩:=hrel
    have p2:=HFj.out.pag.c2
    have p4:=HFj.out.pag.c4
    have p5:=HFj.out.pag.c5
    by_cases hlt:j < l.length
    · obtain ⟨o,rfl,hc⟩:=(HS.out.more HFj.out.only).at_ (by omega)
      have ck:=hc j hlt
      have hlk:(j:Int) < (l.length:Int):=by omega
      have hlk2:¬ (l.length:Int)≤(j:Int):=by omega
      have hsz:=HIT.out j hlt
      rw [List.drop_eq_getElem_cons hlt] at HRD
      obtain ⟨s,hs⟩:=exq (l[j])
      have HLS0:=hide hs
      rw [hs] at ck HRD hsz
      clear hc hs
      have HLS:Hid (l[j]=s):=HLS0.out
      obtain ⟨E1,c1,HD1⟩:∃ (E1:En) (c1:Int),Hid (∀ W,Calls Tryz.prog 25 #[.string s] W fun x w'=>x=.returned (.tuple #[.agg #[.string E1.key,.int .i64 E1.page,.int .i64 E1.slot],.int .i64 c1])∧Only (fun _=>False) W w'):=by
        cases hd1:decE (bl s) with
        | none=>
          refine ⟨noE,140,fun W=>?_⟩
          have:=fdecode_any s W (by unfold maxLen; omega)
          rw [hd1] at this
          exact this
        | some e=>
          refine ⟨e,0,fun W=>?_⟩
          have:=fdecode_any s W (by unfold maxLen; omega)
          rw [hd1] at this
          exact this
      cases hd2:decS (bl s) with
      | none=>
        have HDC:Hid (∀ W,Calls Tryz.prog 45 #[.string s] W fun e w'=>e=.returned (.tuple #[.agg #[.string ⟨#[]⟩,.int .i64 0,.int .i64 0],.int .i64 0,.int .i64 140])∧Only (fun _=>False) W w'):=fun W=>by
          have:=funsep_any s W (by unfold maxLen; omega)
          rw [hd2] at this
          exact this
        have HF:Hid (140=z):=by
          rw [← HZ.out,HRD.out,rdI,hd2]
          rfl
        clear HRD HZ hd2 hsz
        go_wp2_with fail
        refine (HD1.out _).mono ?_
        rintro x w6 ⟨rfl,ho⟩
        have HFA:=hide (HFj.out.more (o2 ho (onlyA w6 (.cells #[.string E1.key,.int .i64 E1.page,.int .i64 E1.slot] 41))))
        have HXA:=hide (Ev.new w6 E1)
        have HXN:Hid (w.heap.size < w6.heap.size∧hb < w6.heap.size∧lb < w6.heap.size):=⟨(HFj.out.pag.more ho).lt,(HFj.out.hv.more ho).lt,(HFj.out.lv.more ho).lt⟩
        clear ho p2 p4 p5 ck HD1
        go_upto_region 12 with fail
        obtain ⟨xb,hxb⟩:=exq (w6.heap.size)
        rw [hxb] at HXA HXN ⊢
        clear hxb
        obtain ⟨W5,hW5⟩:=exq (w6.alloc (.cells #[.string E1.key,.int .i64 E1.page,.int .i64 E1.slot] 41))
        rw [hW5] at HFA HXA ⊢
        clear hW5
        have p2:=HFA.out.pag.c2
        have p5:=HFA.out.pag.c5
        have ck:=(HS.out.more HFA.out.only).at_ (by omega)
        obtain ⟨o2',ho2',hc2⟩:=ck
        have ho3:o2'=o:=by injection ho2' with k; injection k with _ k2; exact k2.symm
        subst ho3
        have ck:=hc2 j hlt
        rw [HLS.out] at ck
        clear hc2 ho2'
        go_wp2_with fail
        refine (HDC.out _).mono ?_
        rintro x w7a ⟨rfl,ho⟩
        have HFB:=hide (HFA.out.more ho)
        have HXB:=hide (HXA.out.more ho)
        clear ho p2 p5 ck HFA HXA HDC
        obtain ⟨d0,d1,d2,f0,f1,f2,_⟩:=HXB.out
        have hthr:=Only.three w7a xb (.string ⟨#[]⟩) (.int .i64 0) (.int .i64 0)
        have HFX:Hid (Fc w (((w7a.setCell ⟨xb,0,none⟩ (.string ⟨#[]⟩)).setCell ⟨xb,1,none⟩ (.int .i64 0)).setCell ⟨xb,2,none⟩ (.int .i64 0)) a v r ⟨#[]⟩ (some ⟨B,o2',none⟩) l.length cp hb lb noE la):=⟨HFB.out.pag.kept hthr (by have:=HXN.out; omega),HFB.out.hv.kept hthr (by have:=HXN.out; omega),HFB.out.lv.kept hthr (by have:=HXN.out; omega),HFB.out.ne,HFB.out.hl,HFB.out.ll,HFB.out.only.trans hthr (fun i hi e=>by have:=HXN.out; omega)⟩
        clear hthr
        go_upto_region 14 with fail
        obtain ⟨W6,hW6⟩:=exq ((((w7a.setCell ⟨xb,0,none⟩ (.string ⟨#[]⟩)).setCell ⟨xb,1,none⟩ (.int .i64 0)).setCell ⟨xb,2,none⟩ (.int .i64 0)))
        rw [hW6] at HFX ⊢
        clear hW6 d0 d1 d2 f0 f1 f2 HFB HXB HXN
        have HOX:=hide HFX.out.only
        go_wp2_with fail
        go_ret
        obtain rfl:=HF.out
        exact ⟨rfl,HOX.out⟩
      | some kk=>
        obtain ⟨e,kd⟩:=kk
        have HDC:Hid (∀ W,Calls Tryz.prog 45 #[.string s] W fun x w'=>x=.returned (.tuple #[.agg #[.string e.key,.int .i64 e.page,.int .i64 e.slot],.int .i64 kd,.int .i64 0])∧Only (fun _=>False) W w'):=fun W=>by
          have:=funsep_any s W (by unfold maxLen; omega)
          rw [hd2] at this
          exact this
        have HSP:Hid (e.sp=true):=(decS_some hd2).1
        have HRE:Hid ((rdI noE none l).isSome=(if okI noE (if j=0 then none else some la) e=true then (rdI noE (some e) (l.drop (j+1))).map (fun ks=>(e,kd) :: ks) else none).isSome):=by
          unfold Hid
          rw [HRD.out,rdI,hd2]
        clear HRD hd2 hsz
        go_wp2_with fail
        refine (HD1.out _).mono ?_
        rintro x w6 ⟨rfl,ho⟩
        have HFA:=hide (HFj.out.more (o2 ho (onlyA w6 (.cells #[.string E1.key,.int .i64 E1.page,.int .i64 E1.slot] 41))))
        have HXA:=hide (Ev.new w6 E1)
        have HXN:Hid (w.heap.size < w6.heap.size∧hb < w6.heap.size∧lb < w6.heap.size):=⟨(HFj.out.pag.more ho).lt,(HFj.out.hv.more ho).lt,(HFj.out.lv.more ho).lt⟩
        clear ho p2 p4 p5 ck HD1
        go_upto_region 12 with fail
        obtain ⟨xb,hxb⟩:=exq (w6.heap.size)
        rw [hxb] at HXA HXN ⊢
        clear hxb
        obtain ⟨W5,hW5⟩:=exq (w6.alloc (.cells #[.string E1.key,.int .i64 E1.page,.int .i64 E1.slot] 41))
        rw [hW5] at HFA HXA ⊢
        clear hW5
        have p2:=HFA.out.pag.c2
        have p5:=HFA.out.pag.c5
        have ck:=(HS.out.more HFA.out.only).at_ (by omega)
        obtain ⟨o2',ho2',hc2⟩:=ck
        have ho3:o2'=o:=by injection ho2' with k; injection k with _ k2; exact k2.symm
        subst ho3
        have ck:=hc2 j hlt
        rw [HLS.out] at ck
        clear hc2 ho2'
        go_wp2_with fail
        refine (HDC.out _).mono ?_
        rintro x w7a ⟨rfl,ho⟩
        have HFB:=hide (HFA.out.more ho)
        have HXB:=hide (HXA.out.more ho)
        clear ho p2 p5 ck HFA HXA HDC
        obtain ⟨d0,d1,d2,f0,f1,f2,_⟩:=HXB.out
        have hthr:=Only.three w7a xb (.string e.key) (.int .i64 e.page) (.int .i64 e.slot)
        have HFX:Hid (Fc w (((w7a.setCell ⟨xb,0,none⟩ (.string e.key)).setCell ⟨xb,1,none⟩ (.int .i64 e.page)).setCell ⟨xb,2,none⟩ (.int .i64 e.slot)) a v r ⟨#[]⟩ (some ⟨B,o2',none⟩) l.length cp hb lb noE la):=⟨HFB.out.pag.kept hthr (by have:=HXN.out; omega),HFB.out.hv.kept hthr (by have:=HXN.out; omega),HFB.out.lv.kept hthr (by have:=HXN.out; omega),HFB.out.ne,HFB.out.hl,HFB.out.ll,HFB.out.only.trans hthr (fun i hi e=>by have:=HXN.out; omega)⟩
        have HXE:=hide (HXB.out.all e)
        clear hthr
        go_upto_region 14 with fail
        obtain ⟨W6,hW6⟩:=exq ((((w7a.setCell ⟨xb,0,none⟩ (.string e.key)).setCell ⟨xb,1,none⟩ (.int .i64 e.page)).setCell ⟨xb,2,none⟩ (.int .i64 e.slot)))
        rw [hW6] at HFX HXE ⊢
        clear hW6 d0 d1 d2 f0 f1 f2 HFB HXB HXN
        have hqe:∀ W,(binOp .eql 41 (.agg #[.string e.key,.int .i64 e.page,.int .i64 e.slot]) (.agg #[.string ⟨#[]⟩,.int .i64 0,.int .i64 0])).run Tryz.prog W=.ok (.bool (decide (e=noE))) W:=fun W=>eqE_run e noE W
        go_cut [102] (fun x wx=>∃ b:Bool,x=.bool b∧Hid (b=true ↔ ¬ (j=0 ↔ e=noE))∧wx=W6)
        case first=>
          obtain ⟨d0,d1,d2,_⟩:=HXE.out
          by_cases hj0:j=0
          · subst hj0
            by_cases he:e=noE
            · rw [decide_eq_true he] at hqe
              have HEE:=hide he
              clear he
              go_wp2_with fail
              go_meet
              exact ⟨false,rfl,hide (by simp [HEE.out]),rfl⟩
            · rw [decide_eq_false he] at hqe
              have HEE:=hide he
              clear he
              go_wp2_with fail
              go_meet
              exact ⟨true,rfl,hide (by simp [HEE.out]),rfl⟩
          · have hjb:((j:Int) == 0)=false:=by rw [beq_eq_false_iff_ne]; omega
            by_cases he:e=noE
            · rw [decide_eq_true he] at hqe
              have HEE:=hide he
              clear he
              go_wp2_with fail
              go_meet
              exact ⟨true,rfl,hide (by simp [HEE.out,hj0]),rfl⟩
            · rw [decide_eq_false he] at hqe
              have HEE:=hide he
              clear he
              go_wp2_with fail
              go_meet
              exact ⟨false,rfl,hide (by simp [HEE.out,hj0]),rfl⟩
        case rest=>
          obtain ⟨bb,rfl,HB0,hwx⟩:=hcut
          obtain rfl:=hwx.symm
          clear hqe
          cases bb with
          | true=>
            have HF:Hid (140=z):=by
              have hb:=HB0.out.1 rfl
              rw [← HZ.out,HRE.out,if_neg (fun k=>by
                by_cases hj0:j=0
                · rw [if_pos hj0] at k
                  unfold okI at k
                  exact hb ⟨fun _=>by simpa using k,fun _=>hj0⟩
                · rw [if_neg hj0] at k
                  have k2:la.lt e:=by
                    unfold okI at k
                    simp only [Bool.and_eq_true,decide_eq_true_eq] at k
                    exact k.1
                  refine hb ⟨fun q=>absurd q hj0,fun q=>?_⟩
                  rw [q] at k2
                  exact absurd k2 (not_lt_noE HLS2.out))]
              rfl
            have HOX:=hide HFX.out.only
            clear HB0 HRE HZ
            go_wp2_with fail
            go_ret
            obtain rfl:=HF.out
            exact ⟨rfl,HOX.out⟩
          | false=>
            have HJE:Hid (j=0 ↔ e=noE):=Classical.byContradiction fun k=>by have:=HB0.out.2 k; cases this
            clear HB0
            have p2:=HFX.out.pag.c2
            go_upto_region 16 with fail
            go_cut [114] (fun x wx=>∃ b:Bool,x=.bool b∧Hid (b=true ↔ ¬ (j=0∨la.lt e))∧Hid (Only (fun _=>False) W6 wx))
            case first=>
              by_cases hj0:j=0
              · subst hj0
                go_wp2_with fail
                go_meet
                exact ⟨false,rfl,hide (by simp),hide (Only.refl _ _)⟩
              · have hjp:(0:Int) < (j:Int):=by omega
                have HCM:Hid (∀ W,Calls Tryz.prog 56 #[.agg #[.string la.key,.int .i64 la.page,.int .i64 la.slot],.agg #[.string e.key,.int .i64 e.page,.int .i64 e.slot]] W fun x w'=>x=.returned (.int .i64 (cmpE la e))∧Only (fun _=>False) W w'):=fun W=>fcompare_any la e W
                have hcn:=cmpE_neg (a:=la) (b:=e)
                obtain ⟨c,hc⟩:=exq (cmpE la e)
                rw [hc] at HCM hcn
                have HCN:=hide hcn
                clear hc hcn
                obtain ⟨d0,d1,d2,_⟩:=HXE.out
                obtain ⟨t0,t1,t2,_⟩:=HFX.out.lv
                go_wp2_with fail
                refine (HCM.out _).mono ?_
                rintro x w7 ⟨rfl,ho⟩
                have HO7:=hide ho
                clear ho
                by_cases hc0:(0:Int)≤c
                · have HNL:Hid (¬ (j=0∨la.lt e)):=fun k=>by
                    rcases k with k | k
                    · exact hj0 k
                    · have:=HCN.out.2 k
                      omega
                  clear HCN
                  go_wp2_with fail
                  go_meet
                  exact ⟨true,rfl,hide ⟨fun _=>HNL.out,fun _=>rfl⟩,HO7⟩
                · have HNL:Hid (la.lt e):=HCN.out.1 (by omega)
                  clear HCN
                  go_wp2_with fail
                  go_meet
                  exact ⟨false,by rw [decide_eq_false (by omega)],hide ⟨(fun k=>by cases k),fun k=>absurd (Or.inr HNL.out) k⟩,HO7⟩
            case rest=>
              obtain ⟨bb,rfl,HB,HO6⟩:=hcut
              obtain ⟨w7,hw7⟩:=exq (wc)
              rw [hw7] at HO6 ⊢
              clear hw7
              have HF7:=hide (HFX.out.more HO6.out)
              have HE7:=hide (HXE.out.more HO6.out)
              clear HO6 HFX HXE
              have p2:=HF7.out.pag.c2
              have p4:=HF7.out.pag.c4
              have p5:=HF7.out.pag.c5
              cases bb with
              | true=>
                have HF:Hid (140=z):=by
                  have hb:=HB.out.1 rfl
                  rw [← HZ.out,HRE.out,if_neg (fun k=>by
                    by_cases hj0:j=0
                    · exact hb (.inl hj0)
                    · rw [if_neg hj0] at k
                      unfold okI at k
                      simp only [Bool.and_eq_true,decide_eq_true_eq] at k
                      exact hb (.inr k.1))]
                  rfl
                have HOX:=hide HF7.out.only
                clear HB HRE HZ
                go_wp2_with fail
                go_ret
                obtain rfl:=HF.out
                exact ⟨rfl,HOX.out⟩
              | false=>
                have HLT:Hid (j=0∨la.lt e):=Classical.byContradiction fun k=>by have:=HB.out.2 k; cases this
                clear HB
                have HRN:Hid ((rdI noE none l).isSome=(rdI noE (if j+1=0 then none else some e) (l.drop (j+1))).isSome):=by
                  unfold Hid
                  rw [HRE.out,if_pos (by
                    by_cases hj0:j=0
                    · rw [if_pos hj0]
                      unfold okI
                      simpa using HJE.out.1 hj0
                    · rw [if_neg hj0]
                      unfold okI
                      have h1:la.lt e:=by
                        rcases HLT.out with k | k
                        · exact absurd k hj0
                        · exact k
                      simp only [Bool.and_eq_true,decide_eq_true_eq]
                      exact ⟨h1,blw_yes.2 (.inl rfl)⟩),Option.isSome_map,if_neg (by omega)]
                clear HRE HJE HLT
                obtain ⟨d0,d1,d2,_⟩:=HE7.out
                obtain ⟨t0,t1,t2,f0,f1,f2,_⟩:=HF7.out.lv
                have HFN:=hide (HF7.out.next e)
                go_wp2_with fail
                go_roundw
                case rel=>exact ⟨j+1,e,by omega,by go_num,hide (fun h=>by omega),HFN,HRN,HSP⟩
                case measure=>simp [intOf]; omega
    · have hlk:¬ (j:Int) < (l.length:Int):=by omega
      have HF:Hid (0=z):=by
        rw [← HZ.out,HRD.out,List.drop_of_length_le (by omega)]
        rw [rdI]
        rfl
      have HOX:=hide HFj.out.only
      clear HRD HZ
      go_wp2_with fail
      go_ret
      obtain rfl:=HF.out
      exact ⟨rfl,HOX.out⟩
set_option maxHeartbeats 6400000 in
theorem fcheck_innerH (w:World) (a v r:Int) (h:ByteArray) (hi:En) (B cp:Nat) (ao:Option Addr) (l:List ByteArray) (hS:Strs w B ao l) (hv:0 < v∧v≤255) (hp:0 < l.length) (hr:nm r=true) (hx:¬ h=⟨#[]⟩) (hd:decE (bl h)=some hi) (hO:(Pg.out ⟨a,3,v,r,h,l⟩).2=0) (hh:(h:ByteArray).size≤140737488355328) (ha:a < 9223372036854775808) :
    Calls Tryz.prog 41 #[pgv a 3 v r h ao l.length cp] w fun x w'=>x=.returned (.int .i64 (ckC (rdI hi none l).isSome))∧Only (fun _=>False) w w':=by
  have hfit:=(out_zero hO).2
  have hl255:l.length≤255:=hfit.2.1
  have HIT:Hid (∀ (j:Nat) (hj:j < l.length),l[j].size≤512):=fun j hj=>by
    have h1:=hfit.2.2
    unfold Pg.size at h1
    simp only [] at h1
    have h2:=isz_mem (List.getElem_mem hj)
    omega
  have HP:=hide (Pag.new w (.int .i64 a) (.int .i64 3) (.int .i64 v) (.int .i64 r) (.string h) (.slice ao l.length cp))
  have HO:=hide (onlyA w (.cells #[.int .i64 a,.int .i64 3,.int .i64 v,.int .i64 r,.string h,.slice ao l.length cp] 24))
  have HE:Hid (∀ W,Only (fun _=>False) w W→Calls Tryz.prog 87 #[.agg #[.int .i64 a,.int .i64 3,.int .i64 v,.int .i64 r,.string h,.slice ao l.length cp]] W fun x w'=>(∃ s,x=.returned (.tuple #[.string s,.int .i64 0]))∧Only (fun _=>False) W w'):=fun W ho=>by
    refine (yencode_any W a 3 v r h B cp ao l (hS.more ho) hh ha).mono ?_
    rintro x w' ⟨rfl,ho'⟩
    exact ⟨⟨_,by rw [hO]⟩,ho'⟩
  have HSM:Hid (∀ W,Calls Tryz.prog 88 #[.int .i64 r] W fun e w'=>e=.returned (.bool true)∧w'=W):=fun W=>by
    have:=fsmall_any r W
    rwa [hr] at this
  have HDH:Hid (∀ W,Calls Tryz.prog 25 #[.string h] W fun e w'=>e=.returned (.tuple #[.agg #[.string hi.key,.int .i64 hi.page,.int .i64 hi.slot],.int .i64 0])∧Only (fun _=>False) W w'):=fun W=>by
    have:=fdecode_any h W (by unfold maxLen; have:=hh; omega)
    rw [hd] at this
    exact this
  have HS:=hide hS
  obtain ⟨z,hz⟩:=exq (ckC (rdI hi none l).isSome)
  rw [hz]
  have HZ:=hide hz
  have hne:=ba_neN (s:=h) (t:=⟨#[]⟩) hx
  have hne':¬ h.toList=[]:=by
    have h2:¬ h.toList=(⟨#[]⟩:ByteArray).toList:=by simpa using hne
    rw [ByteArray.toList_eq ⟨#[]⟩] at h2
    exact h2
  have hn1:(h.toList == [])=false:=by simpa using hne'
  have hn2:h.toList.isEmpty=false:=by
    cases e:h.toList with
    | nil=>exact absurd e hne'
    | cons _ _=>rfl
  have HOKH:Hid (hi.ok=true):=(decE_some hd).1
  have HNEH:Hid (hi≠noE):=En.ok_ne HOKH.out
  have hv1:¬ v < 0:=by omega
  have hv2:¬ (255:Int) < v:=by omega
  have hv3:(0:Int) < v:=by omega
  have hl0:((l.length:Int) == 0)=false:=by rw [beq_eq_false_iff_ne]; omega
  clear hS hO hh ha hz hr hfit hx hd hne hv hp
  unfold pgv
  go_enter Tryz.func41,Tryz.ntmps41
  go_upto_region 1 with fail
  obtain ⟨W0,hW0⟩:=exq (w.alloc (.cells #[.int .i64 a,.int .i64 3,.int .i64 v,.int .i64 r,.string h,.slice ao l.length cp] 24))
  rw [hW0] at HP HO ⊢
  clear hW0
  obtain ⟨p0,p1,p2,p3,p4,p5,_⟩:=HP.out
  go_wp2_with fail
  refine (HE.out _ HO.out).mono ?_
  rintro x w1 ⟨⟨s,rfl⟩,ho⟩
  have HP1:=hide (HP.out.more ho)
  have HO1:=hide (o2 HO.out ho)
  have HB1:Hid (w.heap.size < w1.heap.size):=HP1.out.lt
  clear ho p0 p1 p2 p3 p4 p5 HP HO HE
  obtain ⟨p0,p1,p2,p3,p4,p5,_⟩:=HP1.out
  go_wp2_with fail
  refine (HSM.out _).mono ?_
  rintro x w2 ⟨rfl,hw⟩
  obtain rfl:=hw.symm
  go_wp2_with fail
  refine (HDH.out _).mono ?_
  rintro x w3 ⟨rfl,ho⟩
  have HP3:=hide (HP1.out.more ho)
  have HO3:=hide (o2 HO1.out ho)
  have HB3:Hid (w.heap.size < w3.heap.size):=HP3.out.lt
  clear ho p0 p1 p2 p3 p4 p5 HP1 HO1 HB1 HDH HSM
  go_upto_region 5 with fail
  have HA:=hide (onlyA w3 (.cells #[.string hi.key,.int .i64 hi.page,.int .i64 hi.slot] 41))
  have HV:Hid (Ev (w3.alloc (.cells #[.string hi.key,.int .i64 hi.page,.int .i64 hi.slot] 41)) w3.heap.size hi):=Ev.new w3 hi
  obtain ⟨hb,hhb⟩:=exq (w3.heap.size)
  rw [hhb] at HV HB3 ⊢
  clear hhb
  obtain ⟨w4,hw4⟩:=exq (w3.alloc (.cells #[.string hi.key,.int .i64 hi.page,.int .i64 hi.slot] 41))
  rw [hw4] at HA HV ⊢
  clear hw4
  have HP4:=hide (HP3.out.more HA.out)
  have HO4:=hide (o2 HO3.out HA.out)
  clear HA HP3 HO3
  obtain ⟨p0,p1,p2,p3,p4,p5,_⟩:=HP4.out
  go_upto_region 8 with fail
  have HA:=hide (onlyA w4 (.cells #[.string ⟨#[]⟩,.int .i64 0,.int .i64 0] 41))
  have HLV:=hide (Ev.zero w4)
  have HBV:Hid (hb < w4.heap.size):=HV.out.lt
  obtain ⟨lb,hlb⟩:=exq (w4.heap.size)
  rw [hlb] at HLV HBV ⊢
  clear hlb
  obtain ⟨w5,hw5⟩:=exq (w4.alloc (.cells #[.string ⟨#[]⟩,.int .i64 0,.int .i64 0] 41))
  rw [hw5] at HA HLV ⊢
  clear hw5
  have HF0:Hid (Fc w w5 a v r h ao l.length cp hb lb hi noE):=⟨HP4.out.more HA.out,HV.out.more HA.out,HLV.out,by have:=HBV.out; omega,HB3.out,by have:=HBV.out; have:=HB3.out; omega,o2 HO4.out HA.out⟩
  clear HA HLV HV HP4 HO4 HBV HB3 p0 p1 p2 p3 p4 p5
  go_upto_region 9 with fail
  go_loopw [8] (fun i wr=>∃ (j:Nat) (la:En),j≤l.length∧i=.int .i64 (j:Int)∧Hid (j=0→la=noE)∧Hid (Fc w wr a v r h ao l.length cp hb lb hi la)∧Hid ((rdI hi none l).isSome=(rdI hi (if j=0 then none else some la) (l.drop j)).isSome)∧Hid (la.sp=true)) (fun i _=>l.length - (intOf i).toNat)
  case atStart=>exact ⟨0,noE,Nat.zero_le _,rfl,hide (fun _=>rfl),HF0,hide (by simp),hide (by decide)⟩
  case round=>
    clear HF0
    obtain ⟨j,la,hj,rfl,HJ0,HFj,HRD,HLS2⟩:=hrel
    have p2:=HFj.out.pag.c2
    have p4:=HFj.out.pag.c4
    have p5:=HFj.out.pag.c5
    by_cases hlt:j < l.length
    · obtain ⟨o,rfl,hc⟩:=(HS.out.more HFj.out.only).at_ (by omega)
      have ck:=hc j hlt
      have hlk:(j:Int) < (l.length:Int):=by omega
      have hlk2:¬ (l.length:Int)≤(j:Int):=by omega
      have hsz:=HIT.out j hlt
      rw [List.drop_eq_getElem_cons hlt] at HRD
      obtain ⟨s,hs⟩:=exq (l[j])
      have HLS0:=hide hs
      rw [hs] at ck HRD hsz
      clear hc hs
      have HLS:Hid (l[j]=s):=HLS0.out
      obtain ⟨E1,c1,HD1⟩:∃ (E1:En) (c1:Int),Hid (∀ W,Calls Tryz.prog 25 #[.string s] W fun x w'=>x=.returned (.tuple #[.agg #[.string E1.key,.int .i64 E1.page,.int .i64 E1.slot],.int .i64 c1])∧Only (fun _=>False) W w'):=by
        cases hd1:decE (bl s) with
        | none=>
          refine ⟨noE,140,fun W=>?_⟩
          have:=fdecode_any s W (by unfold maxLen; omega)
          rw [hd1] at this
          exact this
        | some e=>
          refine ⟨e,0,fun W=>?_⟩
          have:=fdecode_any s W (by unfold maxLen; omega)
          rw [hd1] at this
          exact this
      cases hd2:decS (bl s) with
      | none=>
        have HDC:Hid (∀ W,Calls Tryz.prog 45 #[.string s] W fun e w'=>e=.returned (.tuple #[.agg #[.string ⟨#[]⟩,.int .i64 0,.int .i64 0],.int .i64 0,.int .i64 140])∧Only (fun _=>False) W w'):=fun W=>by
          have:=funsep_any s W (by unfold maxLen; omega)
          rw [hd2] at this
          exact this
        have HF:Hid (140=z):=by
          rw [← HZ.out,HRD.out,rdI,hd2]
          rfl
        clear HRD HZ hd2 hsz
        go_wp2_with fail
        refine (HD1.out _).mono ?_
        rintro x w6 ⟨rfl,ho⟩
        have HFA:=hide (HFj.out.more (o2 ho (onlyA w6 (.cells #[.string E1.key,.int .i64 E1.page,.int .i64 E1.slot] 41))))
        have HXA:=hide (Ev.new w6 E1)
        have HXN:Hid (w.heap.size < w6.heap.size∧hb < w6.heap.size∧lb < w6.heap.size):=⟨(HFj.out.pag.more ho).lt,(HFj.out.hv.more ho).lt,(HFj.out.lv.more ho).lt⟩
        clear ho p2 p4 p5 ck HD1
        go_upto_region 12 with fail
        obtain ⟨xb,hxb⟩:=exq (w6.heap.size)
        rw [hxb] at HXA HXN ⊢
        clear hxb
        obtain ⟨W5,hW5⟩:=exq (w6.alloc (.cells #[.string E1.key,.int .i64 E1.page,.int .i64 E1.slot] 41))
        rw [hW5] at HFA HXA ⊢
        clear hW5
        have p2:=HFA.out.pag.c2
        have p5:=HFA.out.pag.c5
        have ck:=(HS.out.more HFA.out.only).at_ (by omega)
        obtain ⟨o2',ho2',hc2⟩:=ck
        have ho3:o2'=o:=by injection ho2' with k; injection k with _ k2; exact k2.symm
        subst ho3
        have ck:=hc2 j hlt
        rw [HLS.out] at ck
        clear hc2 ho2'
        go_wp2_with fail
        refine (HDC.out _).mono ?_
        rintro x w7a ⟨rfl,ho⟩
        have HFB:=hide (HFA.out.more ho)
        have HXB:=hide (HXA.out.more ho)
        clear ho p2 p5 ck HFA HXA HDC
        obtain ⟨d0,d1,d2,f0,f1,f2,_⟩:=HXB.out
        have hthr:=Only.three w7a xb (.string ⟨#[]⟩) (.int .i64 0) (.int .i64 0)
        have HFX:Hid (Fc w (((w7a.setCell ⟨xb,0,none⟩ (.string ⟨#[]⟩)).setCell ⟨xb,1,none⟩ (.int .i64 0)).setCell ⟨xb,2,none⟩ (.int .i64 0)) a v r h (some ⟨B,o2',none⟩) l.length cp hb lb hi la):=⟨HFB.out.pag.kept hthr (by have:=HXN.out; omega),HFB.out.hv.kept hthr (by have:=HXN.out; omega),HFB.out.lv.kept hthr (by have:=HXN.out; omega),HFB.out.ne,HFB.out.hl,HFB.out.ll,HFB.out.only.trans hthr (fun i hi e=>by have:=HXN.out; omega)⟩
        clear hthr
        go_upto_region 14 with fail
        obtain ⟨W6,hW6⟩:=exq ((((w7a.setCell ⟨xb,0,none⟩ (.string ⟨#[]⟩)).setCell ⟨xb,1,none⟩ (.int .i64 0)).setCell ⟨xb,2,none⟩ (.int .i64 0)))
        rw [hW6] at HFX ⊢
        clear hW6 d0 d1 d2 f0 f1 f2 HFB HXB HXN
        have HOX:=hide HFX.out.only
        go_wp2_with fail
        go_ret
        obtain rfl:=HF.out
        exact ⟨rfl,HOX.out⟩
      | some kk=>
        obtain ⟨e,kd⟩:=kk
        have HDC:Hid (∀ W,Calls Tryz.prog 45 #[.string s] W fun x w'=>x=.returned (.tuple #[.agg #[.string e.key,.int .i64 e.page,.int .i64 e.slot],.int .i64 kd,.int .i64 0])∧Only (fun _=>False) W w'):=fun W=>by
          have:=funsep_any s W (by unfold maxLen; omega)
          rw [hd2] at this
          exact this
        have HSP:Hid (e.sp=true):=(decS_some hd2).1
        have HRE:Hid ((rdI hi none l).isSome=(if okI hi (if j=0 then none else some la) e=true then (rdI hi (some e) (l.drop (j+1))).map (fun ks=>(e,kd) :: ks) else none).isSome):=by
          unfold Hid
          rw [HRD.out,rdI,hd2]
        clear HRD hd2 hsz
        go_wp2_with fail
        refine (HD1.out _).mono ?_
        rintro x w6 ⟨rfl,ho⟩
        have HFA:=hide (HFj.out.more (o2 ho (onlyA w6 (.cells #[.string E1.key,.int .i64 E1.page,.int .i64 E1.slot] 41))))
        have HXA:=hide (Ev.new w6 E1)
        have HXN:Hid (w.heap.size < w6.heap.size∧hb < w6.heap.size∧lb < w6.heap.size):=⟨(HFj.out.pag.more ho).lt,(HFj.out.hv.more ho).lt,(HFj.out.lv.more ho).lt⟩
        clear ho p2 p4 p5 ck HD1
        go_upto_region 12 with fail
        obtain ⟨xb,hxb⟩:=exq (w6.heap.size)
        rw [hxb] at HXA HXN ⊢
        clear hxb
        obtain ⟨W5,hW5⟩:=exq (w6.alloc (.cells #[.string E1.key,.int .i64 E1.page,.int .i64 E1.slot] 41))
        rw [hW5] at HFA HXA ⊢
        clear hW5
        have p2:=HFA.out.pag.c2
        have p5:=HFA.out.pag.c5
        have ck:=(HS.out.more HFA.out.only).at_ (by omega)
        obtain ⟨o2',ho2',hc2⟩:=ck
        have ho3:o2'=o:=by injection ho2' with k; injection k with _ k2; exact k2.symm
        subst ho3
        have ck:=hc2 j hlt
        rw [HLS.out] at ck
        clear hc2 ho2'
        go_wp2_with fail
        refine (HDC.out _).mono ?_
        rintro x w7a ⟨rfl,ho⟩
        have HFB:=hide (HFA.out.more ho)
        have HXB:=hide (HXA.out.more ho)
        clear ho p2 p5 ck HFA HXA HDC
        obtain ⟨d0,d1,d2,f0,f1,f2,_⟩:=HXB.out
        have hthr:=Only.three w7a xb (.string e.key) (.int .i64 e.page) (.int .i64 e.slot)
        have HFX:Hid (Fc w (((w7a.setCell ⟨xb,0,none⟩ (.string e.key)).setCell ⟨xb,1,none⟩ (.int .i64 e.page)).setCell ⟨xb,2,none⟩ (.int .i64 e.slot)) a v r h (some ⟨B,o2',none⟩) l.length cp hb lb hi la):=⟨HFB.out.pag.kept hthr (by have:=HXN.out; omega),HFB.out.hv.kept hthr (by have:=HXN.out; omega),HFB.out.lv.kept hthr (by have:=HXN.out; omega),HFB.out.ne,HFB.out.hl,HFB.out.ll,HFB.out.only.trans hthr (fun i hi e=>by have:=HXN.out; omega)⟩
        have HXE:=hide (HXB.out.all e)
        clear hthr
        go_upto_region 14 with fail
        obtain ⟨W6,hW6⟩:=exq ((((w7a.setCell ⟨xb,0,none⟩ (.string e.key)).setCell ⟨xb,1,none⟩ (.int .i64 e.page)).setCell ⟨xb,2,none⟩ (.int .i64 e.slot)))
        rw [hW6] at HFX HXE ⊢
        clear hW6 d0 d1 d2 f0 f1 f2 HFB HXB HXN
        have hqe:∀ W,(binOp .eql 41 (.agg #[.string e.key,.int .i64 e.page,.int .i64 e.slot]) (.agg #[.string ⟨#[]⟩,.int .i64 0,.int .i64 0])).run Tryz.prog W=.ok (.bool (decide (e=noE))) W:=fun W=>eqE_run e noE W
        go_cut [102] (fun x wx=>∃ b:Bool,x=.bool b∧Hid (b=true ↔ ¬ (j=0 ↔ e=noE))∧wx=W6)
        case first=>
          obtain ⟨d0,d1,d2,_⟩:=HXE.out
          by_cases hj0:j=0
          · subst hj0
            by_cases he:e=noE
            · rw [decide_eq_true he] at hqe
              have HEE:=hide he
              clear he
              go_wp2_with fail
              go_meet
              exact ⟨false,rfl,hide (by simp [HEE.out]),rfl⟩
            · rw [decide_eq_false he] at hqe
              have HEE:=hide he
              clear he
              go_wp2_with fail
              go_meet
              exact ⟨true,rfl,hide (by simp [HEE.out]),rfl⟩
          · have hjb:((j:Int) == 0)=false:=by rw [beq_eq_false_iff_ne]; omega
            by_cases he:e=noE
            · rw [decide_eq_true he] at hqe
              have HEE:=hide he
              clear he
              go_wp2_with fail
              go_meet
              exact ⟨true,rfl,hide (by simp [HEE.out,hj0]),rfl⟩
            · rw [decide_eq_false he] at hqe
              have HEE:=hide he
              clear he
              go_wp2_with fail
              go_meet
              exact ⟨false,rfl,hide (by simp [HEE.out,hj0]),rfl⟩
        case rest=>
          obtain ⟨bb,rfl,HB0,hwx⟩:=hcut
          obtain rfl:=hwx.symm
          clear hqe
          cases bb with
          | true=>
            have HF:Hid (140=z):=by
              have hb:=HB0.out.1 rfl
              rw [← HZ.out,HRE.out,if_neg (fun k=>by
                by_cases hj0:j=0
                · rw [if_pos hj0] at k
                  unfold okI at k
                  exact hb ⟨fun _=>by simpa using k,fun _=>hj0⟩
                · rw [if_neg hj0] at k
                  have k2:la.lt e:=by
                    unfold okI at k
                    simp only [Bool.and_eq_true,decide_eq_true_eq] at k
                    exact k.1
                  refine hb ⟨fun q=>absurd q hj0,fun q=>?_⟩
                  rw [q] at k2
                  exact absurd k2 (not_lt_noE HLS2.out))]
              rfl
            have HOX:=hide HFX.out.only
            clear HB0 HRE HZ
            go_wp2_with fail
            go_ret
            obtain rfl:=HF.out
            exact ⟨rfl,HOX.out⟩
          | false=>
            have HJE:Hid (j=0 ↔ e=noE):=Classical.byContradiction fun k=>by have:=HB0.out.2 k; cases this
            clear HB0
            have p2:=HFX.out.pag.c2
            go_upto_region 16 with fail
            go_cut [114] (fun x wx=>∃ b:Bool,x=.bool b∧Hid (b=true ↔ ¬ (j=0∨la.lt e))∧Hid (Only (fun _=>False) W6 wx))
            case first=>
              by_cases hj0:j=0
              · subst hj0
                go_wp2_with fail
                go_meet
                exact ⟨false,rfl,hide (by simp),hide (Only.refl _ _)⟩
              · have hjp:(0:Int) < (j:Int):=by omega
                have HCM:Hid (∀ W,Calls Tryz.prog 56 #[.agg #[.string la.key,.int .i64 la.page,.int .i64 la.slot],.agg #[.string e.key,.int .i64 e.page,.int .i64 e.slot]] W fun x w'=>x=.returned (.int .i64 (cmpE la e))∧Only (fun _=>False) W w'):=fun W=>fcompare_any la e W
                have hcn:=cmpE_neg (a:=la) (b:=e)
                obtain ⟨c,hc⟩:=exq (cmpE la e)
                rw [hc] at HCM hcn
                have HCN:=hide hcn
                clear hc hcn
                obtain ⟨d0,d1,d2,_⟩:=HXE.out
                obtain ⟨t0,t1,t2,_⟩:=HFX.out.lv
                go_wp2_with fail
                refine (HCM.out _).mono ?_
                rintro x w7 ⟨rfl,ho⟩
                have HO7:=hide ho
                clear ho
                by_cases hc0:(0:Int)≤c
                · have HNL:Hid (¬ (j=0∨la.lt e)):=fun k=>by
                    rcases k with k | k
                    · exact hj0 k
                    · have:=HCN.out.2 k
                      omega
                  clear HCN
                  go_wp2_with fail
                  go_meet
                  exact ⟨true,rfl,hide ⟨fun _=>HNL.out,fun _=>rfl⟩,HO7⟩
                · have HNL:Hid (la.lt e):=HCN.out.1 (by omega)
                  clear HCN
                  go_wp2_with fail
                  go_meet
                  exact ⟨false,by rw [decide_eq_false (by omega)],hide ⟨(fun k=>by cases k),fun k=>absurd (Or.inr HNL.out) k⟩,HO7⟩
            case rest=>
              obtain ⟨bb,rfl,HB,HO6⟩:=hcut
              obtain ⟨w7,hw7⟩:=exq (wc)
              rw [hw7] at HO6 ⊢
              clear hw7
              have HF7:=hide (HFX.out.more HO6.out)
              have HE7:=hide (HXE.out.more HO6.out)
              clear HO6 HFX HXE
              have p2:=HF7.out.pag.c2
              have p4:=HF7.out.pag.c4
              have p5:=HF7.out.pag.c5
              cases bb with
              | true=>
                have HF:Hid (140=z):=by
                  have hb:=HB.out.1 rfl
                  rw [← HZ.out,HRE.out,if_neg (fun k=>by
                    by_cases hj0:j=0
                    · exact hb (.inl hj0)
                    · rw [if_neg hj0] at k
                      unfold okI at k
                      simp only [Bool.and_eq_true,decide_eq_true_eq] at k
                      exact hb (.inr k.1))]
                  rfl
                have HOX:=hide HF7.out.only
                clear HB HRE HZ
                go_wp2_with fail
                go_ret
                obtain rfl:=HF.out
                exact ⟨rfl,HOX.out⟩
              | false=>
                have HLT:Hid (j=0∨la.lt e):=Classical.byContradiction fun k=>by have:=HB.out.2 k; cases this
                clear HB
                have HCH:Hid (∀ W,Calls Tryz.prog 56 #[.agg #[.string e.key,.int .i64 e.page,.int .i64 e.slot],.agg #[.string hi.key,.int .i64 hi.page,.int .i64 hi.slot]] W fun x w'=>x=.returned (.int .i64 (cmpE e hi))∧Only (fun _=>False) W w'):=fun W=>fcompare_any e hi W
                have hcp:=cmpE_neg (a:=e) (b:=hi)
                obtain ⟨c,hc⟩:=exq (cmpE e hi)
                rw [hc] at HCH hcp
                have HCP:=hide hcp
                clear hc hcp
                obtain ⟨d0,d1,d2,_⟩:=HE7.out
                obtain ⟨s0,s1,s2,_⟩:=HF7.out.hv
                go_wp2_with fail
                refine (HCH.out _).mono ?_
                rintro x w8 ⟨rfl,ho⟩
                have HF8:=hide (HF7.out.more ho)
                have HE8:=hide (HE7.out.more ho)
                clear ho d0 d1 d2 s0 s1 s2 p2 p4 p5 HF7 HE7
                have p2:=HF8.out.pag.c2
                have p5:=HF8.out.pag.c5
                by_cases hc0:(0:Int) < c
                · have HF:Hid (140=z):=by
                    rw [← HZ.out,HRE.out,if_neg (fun k=>by
                      have hne:¬ e.lt hi:=fun q=>by have:=HCP.out.2 q; omega
                      by_cases hj0:j=0
                      · exact hne (by rw [HJE.out.1 hj0]; exact noE_lt HOKH.out)
                      · rw [if_neg hj0] at k
                        unfold okI at k
                        simp only [Bool.and_eq_true,decide_eq_true_eq] at k
                        rcases blw_yes.1 k.2 with q | q
                        · exact HNEH.out q
                        · exact hne q)]
                    rfl
                  have HOX:=hide HF8.out.only
                  clear HRE HZ HCP HJE HLT
                  go_wp2_with fail
                  go_ret
                  obtain rfl:=HF.out
                  exact ⟨rfl,HOX.out⟩
                · obtain ⟨d0,d1,d2,_⟩:=HE8.out
                  obtain ⟨s0,s1,s2,_⟩:=HF8.out.hv
                  go_wp2_with fail
                  refine (HCH.out _).mono ?_
                  rintro x w9 ⟨rfl,ho⟩
                  have HF9:=hide (HF8.out.more ho)
                  have HE9:=hide (HE8.out.more ho)
                  clear ho d0 d1 d2 s0 s1 s2 p2 p5 HF8 HE8
                  have p5:=HF9.out.pag.c5
                  by_cases hc1:(0:Int)≤c
                  · have HF:Hid (140=z):=by
                      rw [← HZ.out,HRE.out,if_neg (fun k=>by
                      have hne:¬ e.lt hi:=fun q=>by have:=HCP.out.2 q; omega
                      by_cases hj0:j=0
                      · exact hne (by rw [HJE.out.1 hj0]; exact noE_lt HOKH.out)
                      · rw [if_neg hj0] at k
                        unfold okI at k
                        simp only [Bool.and_eq_true,decide_eq_true_eq] at k
                        rcases blw_yes.1 k.2 with q | q
                        · exact HNEH.out q
                        · exact hne q)]
                      rfl
                    have HOX:=hide HF9.out.only
                    clear HRE HZ HCP HJE HLT
                    go_wp2_with fail
                    go_ret
                    obtain rfl:=HF.out
                    exact ⟨rfl,HOX.out⟩
                  · have HRN:Hid ((rdI hi none l).isSome=(rdI hi (if j+1=0 then none else some e) (l.drop (j+1))).isSome):=by
                      unfold Hid
                      rw [HRE.out,if_pos (by
                        by_cases hj0:j=0
                        · rw [if_pos hj0]
                          unfold okI
                          simpa using HJE.out.1 hj0
                        · rw [if_neg hj0]
                          unfold okI
                          have h1:la.lt e:=by
                            rcases HLT.out with k | k
                            · exact absurd k hj0
                            · exact k
                          simp only [Bool.and_eq_true,decide_eq_true_eq]
                          exact ⟨h1,blw_yes.2 (.inr (HCP.out.1 (by omega)))⟩),Option.isSome_map,if_neg (by omega)]
                    clear HRE HCP HJE HLT
                    obtain ⟨d0,d1,d2,_⟩:=HE9.out
                    obtain ⟨t0,t1,t2,f0,f1,f2,_⟩:=HF9.out.lv
                    have HFN:=hide (HF9.out.next e)
                    go_wp2_with fail
                    go_roundw
                    case rel=>exact ⟨j+1,e,by omega,by go_num,hide (fun h=>by omega),HFN,HRN,HSP⟩
                    case measure=>simp [intOf]; omega
    · have hlk:¬ (j:Int) < (l.length:Int):=by omega
      have HF:Hid (0=z):=by
        rw [← HZ.out,HRD.out,List.drop_of_length_le (by omega)]
        rw [rdI]
        rfl
      have HOX:=hide HFj.out.only
      clear HRD HZ
      go_wp2_with fail
      go_ret
      obtain rfl:=HF.out
      exact ⟨rfl,HOX.out⟩
set_option maxHeartbeats 6400000 in
theorem fcheck_W1 (w:World) (a k v r:Int) (h:ByteArray) (B cp:Nat) (ao:Option Addr) (l:List ByteArray) (hS:Strs w B ao l) (hO:¬ (Pg.out ⟨a,k,v,r,h,l⟩).2=0) (hh:(h:ByteArray).size≤140737488355328) (ha:a < 9223372036854775808) :
    Calls Tryz.prog 41 #[pgv a k v r h ao l.length cp] w fun x w'=>x=.returned (.int .i64 140)∧Only (fun _=>False) w w':=by
  have HP:=hide (Pag.new w (.int .i64 a) (.int .i64 k) (.int .i64 v) (.int .i64 r) (.string h) (.slice ao l.length cp))
  have HO:=hide (onlyA w (.cells #[.int .i64 a,.int .i64 k,.int .i64 v,.int .i64 r,.string h,.slice ao l.length cp] 24))
  obtain ⟨c,hc⟩:=exq ((Pg.out ⟨a,k,v,r,h,l⟩).2)
  have HE:Hid (∀ W,Only (fun _=>False) w W→Calls Tryz.prog 87 #[.agg #[.int .i64 a,.int .i64 k,.int .i64 v,.int .i64 r,.string h,.slice ao l.length cp]] W fun x w'=>(∃ s,x=.returned (.tuple #[.string s,.int .i64 c]))∧Only (fun _=>False) W w'):=fun W ho=>by
    refine (yencode_any W a k v r h B cp ao l (hS.more ho) hh ha).mono ?_
    rintro x w' ⟨rfl,ho'⟩
    exact ⟨⟨_,by rw [hc]⟩,ho'⟩
  rw [hc] at hO
  have hc1:(c != 0)=true:=by simpa using hO
  clear hc hO
  clear hS hh ha
  unfold pgv
  go_enter Tryz.func41,Tryz.ntmps41
  go_upto_region 1 with fail
  obtain ⟨W0,hW0⟩:=exq (w.alloc (.cells #[.int .i64 a,.int .i64 k,.int .i64 v,.int .i64 r,.string h,.slice ao l.length cp] 24))
  rw [hW0] at HP HO ⊢
  clear hW0
  obtain ⟨p0,p1,p2,p3,p4,p5,_⟩:=HP.out
  go_wp2_with fail
  refine (HE.out _ HO.out).mono ?_
  rintro x w1 ⟨⟨s,rfl⟩,ho⟩
  have HP1:=hide (HP.out.more ho)
  have HO1:=hide (o2 HO.out ho)
  clear ho p0 p1 p2 p3 p4 p5 HP HO HE
  obtain ⟨p0,p1,p2,p3,p4,p5,_⟩:=HP1.out
  go_wp2_with fail
  go_ret
  exact ⟨rfl,HO1.out⟩
set_option maxHeartbeats 6400000 in
theorem fcheck_W2 (w:World) (a k v r:Int) (h:ByteArray) (B cp:Nat) (ao:Option Addr) (l:List ByteArray) (hS:Strs w B ao l) (hO:(Pg.out ⟨a,k,v,r,h,l⟩).2=0) (hk:¬ k=3) (hh:(h:ByteArray).size≤140737488355328) (ha:a < 9223372036854775808) :
    Calls Tryz.prog 41 #[pgv a k v r h ao l.length cp] w fun x w'=>x=.returned (.int .i64 140)∧Only (fun _=>False) w w':=by
  have HP:=hide (Pag.new w (.int .i64 a) (.int .i64 k) (.int .i64 v) (.int .i64 r) (.string h) (.slice ao l.length cp))
  have HO:=hide (onlyA w (.cells #[.int .i64 a,.int .i64 k,.int .i64 v,.int .i64 r,.string h,.slice ao l.length cp] 24))
  have HE:Hid (∀ W,Only (fun _=>False) w W→Calls Tryz.prog 87 #[.agg #[.int .i64 a,.int .i64 k,.int .i64 v,.int .i64 r,.string h,.slice ao l.length cp]] W fun x w'=>(∃ s,x=.returned (.tuple #[.string s,.int .i64 0]))∧Only (fun _=>False) W w'):=fun W ho=>by
    refine (yencode_any W a k v r h B cp ao l (hS.more ho) hh ha).mono ?_
    rintro x w' ⟨rfl,ho'⟩
    exact ⟨⟨_,by rw [hO]⟩,ho'⟩
  have hrg:=(out_zero hO).1
  have hv1:¬ v < 0:=by have:=hrg.2.2.2.1; simp only [] at this; omega
  have hv2:¬ (255:Int) < v:=by have:=hrg.2.2.2.2.1; simp only [] at this; omega
  clear hO hrg
  have hk1:(k != 3)=true:=by simpa using hk
  clear hk
  clear hS hh ha
  unfold pgv
  go_enter Tryz.func41,Tryz.ntmps41
  go_upto_region 1 with fail
  obtain ⟨W0,hW0⟩:=exq (w.alloc (.cells #[.int .i64 a,.int .i64 k,.int .i64 v,.int .i64 r,.string h,.slice ao l.length cp] 24))
  rw [hW0] at HP HO ⊢
  clear hW0
  obtain ⟨p0,p1,p2,p3,p4,p5,_⟩:=HP.out
  go_wp2_with fail
  refine (HE.out _ HO.out).mono ?_
  rintro x w1 ⟨⟨s,rfl⟩,ho⟩
  have HP1:=hide (HP.out.more ho)
  have HO1:=hide (o2 HO.out ho)
  clear ho p0 p1 p2 p3 p4 p5 HP HO HE
  obtain ⟨p0,p1,p2,p3,p4,p5,_⟩:=HP1.out
  go_wp2_with fail
  go_ret
  exact ⟨rfl,HO1.out⟩
set_option maxHeartbeats 6400000 in
theorem fcheck_W3 (w:World) (a v r:Int) (h:ByteArray) (B cp:Nat) (ao:Option Addr) (l:List ByteArray) (hS:Strs w B ao l) (hO:(Pg.out ⟨a,3,v,r,h,l⟩).2=0) (hr:nm r=false) (hh:(h:ByteArray).size≤140737488355328) (ha:a < 9223372036854775808) :
    Calls Tryz.prog 41 #[pgv a 3 v r h ao l.length cp] w fun x w'=>x=.returned (.int .i64 140)∧Only (fun _=>False) w w':=by
  have HP:=hide (Pag.new w (.int .i64 a) (.int .i64 3) (.int .i64 v) (.int .i64 r) (.string h) (.slice ao l.length cp))
  have HO:=hide (onlyA w (.cells #[.int .i64 a,.int .i64 3,.int .i64 v,.int .i64 r,.string h,.slice ao l.length cp] 24))
  have HE:Hid (∀ W,Only (fun _=>False) w W→Calls Tryz.prog 87 #[.agg #[.int .i64 a,.int .i64 3,.int .i64 v,.int .i64 r,.string h,.slice ao l.length cp]] W fun x w'=>(∃ s,x=.returned (.tuple #[.string s,.int .i64 0]))∧Only (fun _=>False) W w'):=fun W ho=>by
    refine (yencode_any W a 3 v r h B cp ao l (hS.more ho) hh ha).mono ?_
    rintro x w' ⟨rfl,ho'⟩
    exact ⟨⟨_,by rw [hO]⟩,ho'⟩
  have hrg:=(out_zero hO).1
  have hv1:¬ v < 0:=by have:=hrg.2.2.2.1; simp only [] at this; omega
  have hv2:¬ (255:Int) < v:=by have:=hrg.2.2.2.2.1; simp only [] at this; omega
  clear hO hrg
  have HSM:Hid (∀ W,Calls Tryz.prog 88 #[.int .i64 r] W fun e w'=>e=.returned (.bool false)∧w'=W):=fun W=>by
    have:=fsmall_any r W
    rwa [hr] at this
  clear hr
  clear hS hh ha
  unfold pgv
  go_enter Tryz.func41,Tryz.ntmps41
  go_upto_region 1 with fail
  obtain ⟨W0,hW0⟩:=exq (w.alloc (.cells #[.int .i64 a,.int .i64 3,.int .i64 v,.int .i64 r,.string h,.slice ao l.length cp] 24))
  rw [hW0] at HP HO ⊢
  clear hW0
  obtain ⟨p0,p1,p2,p3,p4,p5,_⟩:=HP.out
  go_wp2_with fail
  refine (HE.out _ HO.out).mono ?_
  rintro x w1 ⟨⟨s,rfl⟩,ho⟩
  have HP1:=hide (HP.out.more ho)
  have HO1:=hide (o2 HO.out ho)
  clear ho p0 p1 p2 p3 p4 p5 HP HO HE
  obtain ⟨p0,p1,p2,p3,p4,p5,_⟩:=HP1.out
  go_wp2_with fail
  refine (HSM.out _).mono ?_
  rintro x w2 ⟨rfl,hw⟩
  obtain rfl:=hw.symm
  go_wp2_with fail
  go_ret
  exact ⟨rfl,HO1.out⟩
set_option maxHeartbeats 6400000 in
theorem fcheck_W4 (w:World) (a v r:Int) (h:ByteArray) (B cp:Nat) (ao:Option Addr) (l:List ByteArray) (hS:Strs w B ao l) (hO:(Pg.out ⟨a,3,v,r,h,l⟩).2=0) (hr:nm r=true) (hx:¬ h=⟨#[]⟩) (hd:decE (bl h)=none) (hh:(h:ByteArray).size≤140737488355328) (ha:a < 9223372036854775808) :
    Calls Tryz.prog 41 #[pgv a 3 v r h ao l.length cp] w fun x w'=>x=.returned (.int .i64 140)∧Only (fun _=>False) w w':=by
  have HP:=hide (Pag.new w (.int .i64 a) (.int .i64 3) (.int .i64 v) (.int .i64 r) (.string h) (.slice ao l.length cp))
  have HO:=hide (onlyA w (.cells #[.int .i64 a,.int .i64 3,.int .i64 v,.int .i64 r,.string h,.slice ao l.length cp] 24))
  have HE:Hid (∀ W,Only (fun _=>False) w W→Calls Tryz.prog 87 #[.agg #[.int .i64 a,.int .i64 3,.int .i64 v,.int .i64 r,.string h,.slice ao l.length cp]] W fun x w'=>(∃ s,x=.returned (.tuple #[.string s,.int .i64 0]))∧Only (fun _=>False) W w'):=fun W ho=>by
    refine (yencode_any W a 3 v r h B cp ao l (hS.more ho) hh ha).mono ?_
    rintro x w' ⟨rfl,ho'⟩
    exact ⟨⟨_,by rw [hO]⟩,ho'⟩
  have hrg:=(out_zero hO).1
  have hv1:¬ v < 0:=by have:=hrg.2.2.2.1; simp only [] at this; omega
  have hv2:¬ (255:Int) < v:=by have:=hrg.2.2.2.2.1; simp only [] at this; omega
  clear hO hrg
  have HSM:Hid (∀ W,Calls Tryz.prog 88 #[.int .i64 r] W fun e w'=>e=.returned (.bool true)∧w'=W):=fun W=>by
    have:=fsmall_any r W
    rwa [hr] at this
  clear hr
  have hne:=ba_neN (s:=h) (t:=⟨#[]⟩) hx
  have hne':¬ h.toList=[]:=by
    have h2:¬ h.toList=(⟨#[]⟩:ByteArray).toList:=by simpa using hne
    rw [ByteArray.toList_eq ⟨#[]⟩] at h2
    exact h2
  have hn1:(h.toList == [])=false:=by simpa using hne'
  have hn2:h.toList.isEmpty=false:=by
    cases e:h.toList with
    | nil=>exact absurd e hne'
    | cons _ _=>rfl
  clear hx hne
  have HDH:Hid (∀ W,Calls Tryz.prog 25 #[.string h] W fun e w'=>e=.returned (.tuple #[.agg #[.string ⟨#[]⟩,.int .i64 0,.int .i64 0],.int .i64 140])∧Only (fun _=>False) W w'):=fun W=>by
    have:=fdecode_any h W (by unfold maxLen; have:=hh; omega)
    rw [hd] at this
    exact this
  clear hd
  clear hS hh ha
  unfold pgv
  go_enter Tryz.func41,Tryz.ntmps41
  go_upto_region 1 with fail
  obtain ⟨W0,hW0⟩:=exq (w.alloc (.cells #[.int .i64 a,.int .i64 3,.int .i64 v,.int .i64 r,.string h,.slice ao l.length cp] 24))
  rw [hW0] at HP HO ⊢
  clear hW0
  obtain ⟨p0,p1,p2,p3,p4,p5,_⟩:=HP.out
  go_wp2_with fail
  refine (HE.out _ HO.out).mono ?_
  rintro x w1 ⟨⟨s,rfl⟩,ho⟩
  have HP1:=hide (HP.out.more ho)
  have HO1:=hide (o2 HO.out ho)
  clear ho p0 p1 p2 p3 p4 p5 HP HO HE
  obtain ⟨p0,p1,p2,p3,p4,p5,_⟩:=HP1.out
  go_wp2_with fail
  refine (HSM.out _).mono ?_
  rintro x w2 ⟨rfl,hw⟩
  obtain rfl:=hw.symm
  go_wp2_with fail
  refine (HDH.out _).mono ?_
  rintro x w3 ⟨rfl,ho⟩
  have HP3:=hide (HP1.out.more ho)
  have HO3:=hide (o2 HO1.out ho)
  clear ho p0 p1 p2 p3 p4 p5 HP1 HO1 HDH HSM
  go_upto_region 5 with fail
  have HA:=hide (onlyA w3 (.cells #[.string ⟨#[]⟩,.int .i64 0,.int .i64 0] 41))
  obtain ⟨hb,hhb⟩:=exq (w3.heap.size)
  rw [hhb]
  clear hhb
  obtain ⟨w4,hw4⟩:=exq (w3.alloc (.cells #[.string ⟨#[]⟩,.int .i64 0,.int .i64 0] 41))
  rw [hw4] at HA ⊢
  clear hw4
  have HP4:=hide (HP3.out.more HA.out)
  have HO4:=hide (o2 HO3.out HA.out)
  clear HA HP3 HO3
  obtain ⟨p0,p1,p2,p3,p4,p5,_⟩:=HP4.out
  go_wp2_with fail
  go_ret
  exact ⟨rfl,HO4.out⟩
set_option maxHeartbeats 6400000 in
theorem fcheck_W5 (w:World) (a v r:Int) (B cp:Nat) (ao:Option Addr) (l:List ByteArray) (hS:Strs w B ao l) (hO:(Pg.out ⟨a,3,v,r,⟨#[]⟩,l⟩).2=0) (hr:nm r=true) (hv:0 < v) (hl:l=[]) (hh:(⟨#[]⟩:ByteArray).size≤140737488355328) (ha:a < 9223372036854775808) :
    Calls Tryz.prog 41 #[pgv a 3 v r ⟨#[]⟩ ao l.length cp] w fun x w'=>x=.returned (.int .i64 140)∧Only (fun _=>False) w w':=by
  have HP:=hide (Pag.new w (.int .i64 a) (.int .i64 3) (.int .i64 v) (.int .i64 r) (.string ⟨#[]⟩) (.slice ao l.length cp))
  have HO:=hide (onlyA w (.cells #[.int .i64 a,.int .i64 3,.int .i64 v,.int .i64 r,.string ⟨#[]⟩,.slice ao l.length cp] 24))
  have HE:Hid (∀ W,Only (fun _=>False) w W→Calls Tryz.prog 87 #[.agg #[.int .i64 a,.int .i64 3,.int .i64 v,.int .i64 r,.string ⟨#[]⟩,.slice ao l.length cp]] W fun x w'=>(∃ s,x=.returned (.tuple #[.string s,.int .i64 0]))∧Only (fun _=>False) W w'):=fun W ho=>by
    refine (yencode_any W a 3 v r ⟨#[]⟩ B cp ao l (hS.more ho) hh ha).mono ?_
    rintro x w' ⟨rfl,ho'⟩
    exact ⟨⟨_,by rw [hO]⟩,ho'⟩
  have hrg:=(out_zero hO).1
  have hv1:¬ v < 0:=by have:=hrg.2.2.2.1; simp only [] at this; omega
  have hv2:¬ (255:Int) < v:=by have:=hrg.2.2.2.2.1; simp only [] at this; omega
  clear hO hrg
  have HSM:Hid (∀ W,Calls Tryz.prog 88 #[.int .i64 r] W fun e w'=>e=.returned (.bool true)∧w'=W):=fun W=>by
    have:=fsmall_any r W
    rwa [hr] at this
  clear hr
  have HDH:Hid (∀ W,Calls Tryz.prog 25 #[.string ⟨#[]⟩] W fun e w'=>e=.returned (.tuple #[.agg #[.string ⟨#[]⟩,.int .i64 0,.int .i64 0],.int .i64 140])∧Only (fun _=>False) W w'):=fun W=>by
    have:=fdecode_any ⟨#[]⟩ W (by unfold maxLen; have:=hh; omega)
    rw [decE_empty] at this
    exact this
  subst hl
  simp only [List.length_nil] at HP HO HE ⊢
  clear hS hh ha
  unfold pgv
  go_enter Tryz.func41,Tryz.ntmps41
  go_upto_region 1 with fail
  obtain ⟨W0,hW0⟩:=exq (w.alloc (.cells #[.int .i64 a,.int .i64 3,.int .i64 v,.int .i64 r,.string ⟨#[]⟩,.slice ao 0 cp] 24))
  rw [hW0] at HP HO ⊢
  clear hW0
  obtain ⟨p0,p1,p2,p3,p4,p5,_⟩:=HP.out
  go_wp2_with fail
  refine (HE.out _ HO.out).mono ?_
  rintro x w1 ⟨⟨s,rfl⟩,ho⟩
  have HP1:=hide (HP.out.more ho)
  have HO1:=hide (o2 HO.out ho)
  clear ho p0 p1 p2 p3 p4 p5 HP HO HE
  obtain ⟨p0,p1,p2,p3,p4,p5,_⟩:=HP1.out
  go_wp2_with fail
  refine (HSM.out _).mono ?_
  rintro x w2 ⟨rfl,hw⟩
  obtain rfl:=hw.symm
  go_wp2_with fail
  refine (HDH.out _).mono ?_
  rintro x w3 ⟨rfl,ho⟩
  have HP3:=hide (HP1.out.more ho)
  have HO3:=hide (o2 HO1.out ho)
  clear ho p0 p1 p2 p3 p4 p5 HP1 HO1 HDH HSM
  go_upto_region 5 with fail
  have HA:=hide (onlyA w3 (.cells #[.string ⟨#[]⟩,.int .i64 0,.int .i64 0] 41))
  obtain ⟨hb,hhb⟩:=exq (w3.heap.size)
  rw [hhb]
  clear hhb
  obtain ⟨w4,hw4⟩:=exq (w3.alloc (.cells #[.string ⟨#[]⟩,.int .i64 0,.int .i64 0] 41))
  rw [hw4] at HA ⊢
  clear hw4
  have HP4:=hide (HP3.out.more HA.out)
  have HO4:=hide (o2 HO3.out HA.out)
  clear HA HP3 HO3
  obtain ⟨p0,p1,p2,p3,p4,p5,_⟩:=HP4.out
  go_wp2_with fail
  go_ret
  exact ⟨rfl,HO4.out⟩
set_option maxHeartbeats 6400000 in
theorem fcheck_W6 (w:World) (a v r:Int) (h:ByteArray) (B cp:Nat) (ao:Option Addr) (l:List ByteArray) (hS:Strs w B ao l) (hO:(Pg.out ⟨a,3,v,r,h,l⟩).2=0) (hr:nm r=true) (hx:¬ h=⟨#[]⟩) (hi:En) (hd:decE (bl h)=some hi) (hv:0 < v) (hl:l=[]) (hh:(h:ByteArray).size≤140737488355328) (ha:a < 9223372036854775808) :
    Calls Tryz.prog 41 #[pgv a 3 v r h ao l.length cp] w fun x w'=>x=.returned (.int .i64 140)∧Only (fun _=>False) w w':=by
  have HP:=hide (Pag.new w (.int .i64 a) (.int .i64 3) (.int .i64 v) (.int .i64 r) (.string h) (.slice ao l.length cp))
  have HO:=hide (onlyA w (.cells #[.int .i64 a,.int .i64 3,.int .i64 v,.int .i64 r,.string h,.slice ao l.length cp] 24))
  have HE:Hid (∀ W,Only (fun _=>False) w W→Calls Tryz.prog 87 #[.agg #[.int .i64 a,.int .i64 3,.int .i64 v,.int .i64 r,.string h,.slice ao l.length cp]] W fun x w'=>(∃ s,x=.returned (.tuple #[.string s,.int .i64 0]))∧Only (fun _=>False) W w'):=fun W ho=>by
    refine (yencode_any W a 3 v r h B cp ao l (hS.more ho) hh ha).mono ?_
    rintro x w' ⟨rfl,ho'⟩
    exact ⟨⟨_,by rw [hO]⟩,ho'⟩
  have hrg:=(out_zero hO).1
  have hv1:¬ v < 0:=by have:=hrg.2.2.2.1; simp only [] at this; omega
  have hv2:¬ (255:Int) < v:=by have:=hrg.2.2.2.2.1; simp only [] at this; omega
  clear hO hrg
  have HSM:Hid (∀ W,Calls Tryz.prog 88 #[.int .i64 r] W fun e w'=>e=.returned (.bool true)∧w'=W):=fun W=>by
    have:=fsmall_any r W
    rwa [hr] at this
  clear hr
  have hne:=ba_neN (s:=h) (t:=⟨#[]⟩) hx
  have hne':¬ h.toList=[]:=by
    have h2:¬ h.toList=(⟨#[]⟩:ByteArray).toList:=by simpa using hne
    rw [ByteArray.toList_eq ⟨#[]⟩] at h2
    exact h2
  have hn1:(h.toList == [])=false:=by simpa using hne'
  have hn2:h.toList.isEmpty=false:=by
    cases e:h.toList with
    | nil=>exact absurd e hne'
    | cons _ _=>rfl
  clear hx hne
  have HDH:Hid (∀ W,Calls Tryz.prog 25 #[.string h] W fun e w'=>e=.returned (.tuple #[.agg #[.string hi.key,.int .i64 hi.page,.int .i64 hi.slot],.int .i64 0])∧Only (fun _=>False) W w'):=fun W=>by
    have:=fdecode_any h W (by unfold maxLen; have:=hh; omega)
    rw [hd] at this
    exact this
  clear hd
  subst hl
  simp only [List.length_nil] at HP HO HE ⊢
  clear hS hh ha
  unfold pgv
  go_enter Tryz.func41,Tryz.ntmps41
  go_upto_region 1 with fail
  obtain ⟨W0,hW0⟩:=exq (w.alloc (.cells #[.int .i64 a,.int .i64 3,.int .i64 v,.int .i64 r,.string h,.slice ao 0 cp] 24))
  rw [hW0] at HP HO ⊢
  clear hW0
  obtain ⟨p0,p1,p2,p3,p4,p5,_⟩:=HP.out
  go_wp2_with fail
  refine (HE.out _ HO.out).mono ?_
  rintro x w1 ⟨⟨s,rfl⟩,ho⟩
  have HP1:=hide (HP.out.more ho)
  have HO1:=hide (o2 HO.out ho)
  clear ho p0 p1 p2 p3 p4 p5 HP HO HE
  obtain ⟨p0,p1,p2,p3,p4,p5,_⟩:=HP1.out
  go_wp2_with fail
  refine (HSM.out _).mono ?_
  rintro x w2 ⟨rfl,hw⟩
  obtain rfl:=hw.symm
  go_wp2_with fail
  refine (HDH.out _).mono ?_
  rintro x w3 ⟨rfl,ho⟩
  have HP3:=hide (HP1.out.more ho)
  have HO3:=hide (o2 HO1.out ho)
  clear ho p0 p1 p2 p3 p4 p5 HP1 HO1 HDH HSM
  go_upto_region 5 with fail
  have HA:=hide (onlyA w3 (.cells #[.string hi.key,.int .i64 hi.page,.int .i64 hi.slot] 41))
  obtain ⟨hb,hhb⟩:=exq (w3.heap.size)
  rw [hhb]
  clear hhb
  obtain ⟨w4,hw4⟩:=exq (w3.alloc (.cells #[.string hi.key,.int .i64 hi.page,.int .i64 hi.slot] 41))
  rw [hw4] at HA ⊢
  clear hw4
  have HP4:=hide (HP3.out.more HA.out)
  have HO4:=hide (o2 HO3.out HA.out)
  clear HA HP3 HO3
  obtain ⟨p0,p1,p2,p3,p4,p5,_⟩:=HP4.out
  go_wp2_with fail
  go_ret
  exact ⟨rfl,HO4.out⟩
theorem nm_yes {r:Int}:nm r=true ↔ (0≤r∧r≤65535):=by unfold nm; simp
theorem fcheck_any (w:World) (a k v r:Int) (h:ByteArray) (B cp:Nat) (ao:Option Addr) (l:List ByteArray) (hS:Strs w B ao l) (hh:h.size≤140737488355328) (ha:a < 9223372036854775808) :
    Calls Tryz.prog 41 #[pgv a k v r h ao l.length cp] w fun x w'=>x=.returned (.int .i64 (ckC (ckB a k v r h l)))∧Only (fun _=>False) w w':=by
  unfold ckB
  by_cases hO:(Pg.out ⟨a,k,v,r,h,l⟩).2=0
  · rw [decide_eq_true hO,Bool.and_true]
    obtain ⟨i1,i2⟩:=out_zero hO
    have v0:0≤v:=i1.2.2.2.1
    have v1:v≤255:=i1.2.2.2.2.1
    by_cases hk:k=3
    · subst hk
      by_cases hr:nm r=true
      · have hr':=nm_yes.1 hr
        by_cases hx:h=⟨#[]⟩
        · subst hx
          have hH:hdO 3 v r ⟨#[]⟩=some noE:=by unfold hdO; rw [if_pos ⟨rfl,v0,v1,hr'.1,hr'.2⟩,if_pos rfl]
          unfold rdB lfB inB
          rw [hH]
          by_cases hv:v=0
          · subst hv
            simp only [if_true,decide_true,Bool.true_and]
            exact fcheck_leaf0 w a r B cp ao l hS hr hO hh ha
          · rw [if_neg hv]
            by_cases hl:l=[]
            · simp only [decide_eq_true hl,Bool.not_true,Bool.false_and,Bool.and_false]
              exact fcheck_W5 w a v r B cp ao l hS hO hr (by omega) hl hh ha
            · simp only [decide_eq_false hv,decide_eq_false hl,Bool.not_false,Bool.true_and]
              exact fcheck_inner0 w a v r B cp ao l hS ⟨by omega,v1⟩ (List.length_pos_iff.2 hl) hr hO hh ha
        · cases hd:decE (bl h) with
          | none=>
            have hH:hdO 3 v r h=none:=by unfold hdO; rw [if_pos ⟨rfl,v0,v1,hr'.1,hr'.2⟩,if_neg hx,hd]
            unfold rdB lfB inB
            rw [hH]
            simp only [ite_self]
            exact fcheck_W4 w a v r h B cp ao l hS hO hr hx hd hh ha
          | some hi=>
            have hH:hdO 3 v r h=some hi:=by unfold hdO; rw [if_pos ⟨rfl,v0,v1,hr'.1,hr'.2⟩,if_neg hx,hd]
            unfold rdB lfB inB
            rw [hH]
            by_cases hv:v=0
            · subst hv
              simp only [if_true,decide_true,Bool.true_and]
              exact fcheck_leafH w a r h hi B cp ao l hS hr hx hd hO hh ha
            · rw [if_neg hv]
              by_cases hl:l=[]
              · simp only [decide_eq_true hl,Bool.not_true,Bool.false_and,Bool.and_false]
                exact fcheck_W6 w a v r h B cp ao l hS hO hr hx hi hd (by omega) hl hh ha
              · simp only [decide_eq_false hv,decide_eq_false hl,Bool.not_false,Bool.true_and]
                exact fcheck_innerH w a v r h hi B cp ao l hS ⟨by omega,v1⟩ (List.length_pos_iff.2 hl) hr hx hd hO hh ha
      · have hrf:nm r=false:=by simpa using hr
        have hH:hdO 3 v r h=none:=by unfold hdO; rw [if_neg (fun q=>hr (nm_yes.2 q.2.2.2))]
        unfold rdB lfB inB
        rw [hH]
        simp only [ite_self]
        exact fcheck_W3 w a v r h B cp ao l hS hO hrf hh ha
    · have hH:hdO k v r h=none:=by unfold hdO; rw [if_neg (fun q=>hk q.1)]
      unfold rdB lfB inB
      rw [hH]
      simp only [ite_self]
      exact fcheck_W2 w a k v r h B cp ao l hS hO hk hh ha
  · rw [decide_eq_false hO,Bool.and_false]
    exact fcheck_W1 w a k v r h B cp ao l hS hO hh ha
end Go.Proofs.YtipkeeobmihogaaGreat
