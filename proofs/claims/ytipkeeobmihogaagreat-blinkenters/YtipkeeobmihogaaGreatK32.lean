/- Parts. -/
import Derived.Test.YtipkeeobmihogaaGreatK31
set_option maxRecDepth 100000
namespace Go.Proofs.YtipkeeobmihogaaGreat
open Go.RowKit
set_option maxHeartbeats 3200000 in
theorem fsplit_inner (w:World) (a v r:Int) (h:ByteArray) (hi:En) (c:Int) (B cp:Nat) (ao:Option Addr) (l:List ByteArray) (ks:List (En × Int)) (hP:Ip w v r h hi B ao l ks) (hF:Fit ao l.length cp) (hc:okC c=true) (hn:2≤l.length) (hCK:∀ W,Only (fun _=>False) w W→Calls Tryz.prog 41 #[.agg #[.int .i64 a,.int .i64 3,.int .i64 v,.int .i64 r,.string h,.slice ao l.length cp]] W fun x w'=>x=.returned (.int .i64 0)∧Only (fun _=>False) W w') :
    Calls Tryz.prog 21 #[.agg #[.int .i64 a,.int .i64 3,.int .i64 v,.int .i64 r,.string h,.slice ao l.length cp],.int .i64 c] w fun x w'=>SplN w w' x a v r h c l ((l.length+1) / 2) (l.length - (l.length+1) / 2) (ks.getD ((l.length+1) / 2) (noE,0)).1 (noE.encS (ks.getD ((l.length+1) / 2) (noE,0)).2 :: l.drop ((l.length+1) / 2+1)):=by
  have hv0:0 < v:=by have:=hP.level; omega
  obtain ⟨o,rfl,hcell⟩:=hP.strs.at_ (by omega)
  have HX:=hide (SvI.new w a v r h (some ⟨B,o,none⟩) l.length cp)
  have HCK:=hide hCK
  have HIC:Hid (∀ W,Calls Tryz.prog 52 #[.int .i64 c] W fun x w'=>x=.returned (.bool true)∧w'=W):=fun W=>by
    have:=fchild_any c W
    rwa [hc] at this
  have HFEW:=hide hP.few
  have HS:=hide hP.strs
  have HF:=hide hF
  have hn2:¬ (l.length:Int) < 2:=by omega
  have HCP:=hide (And.intro hF.le hF.big)
  have HM0:=hide (half_eq l.length hP.few)
  obtain ⟨m,hm⟩:=exq ((l.length+1) / 2)
  have hmb:1≤m∧m < l.length:=by omega
  obtain ⟨P,hPm⟩:∃ P,m=P+1:=⟨m - 1,by omega⟩
  have HPL:Hid (P < l.length):=by unfold Hid; omega
  have HCELL:Hid (∀ W,Only (fun _=>False) w W→∀ j (h:j < l.length),W.cell? ⟨B,o+j,none⟩=some (.string l[j])):=fun W ho j h=>(ho.cell (p:=⟨B,o+j,none⟩) (hP.strs.lt (by omega)) (fun h=>h)).trans (hcell j h)
  obtain ⟨A2,hA2⟩:=exq ((if cp=m then some (⟨B,o,none⟩:Addr) else some ⟨B,o+m,none⟩))
  have hSd:∀ W,Only (fun _=>False) w W→Strs W B A2 (l.drop m):=fun W ho=>by
    exact (hP.strs.more ho).drop m A2 (fun _=>by rw [← hA2,if_neg (by have:=hF.le; omega)])
  have hSt:∀ W,Only (fun _=>False) w W→Strs W B (some ⟨B,o,none⟩) (l.take m):=fun W ho=>(hP.strs.more ho).take m
  have HSD:=hide hSd
  have HST:=hide hSt
  have HDL:Hid ((l.drop m).length=l.length - m∧(l.take m).length=m):=by unfold Hid; rw [List.length_drop,List.length_take]; omega
  have HFD:Hid (Fit A2 (l.drop m).length (cp - m)∧Fit (some ⟨B,o,none⟩) (l.take m).length cp):=by
    refine ⟨⟨fun e=>?_,?_,?_⟩,⟨fun e=>(by cases e),?_,hF.big⟩⟩
    · rw [← hA2] at e
      split at e <;> cases e
    · rw [HDL.out.1]; have:=hF.le; omega
    · have:=hF.big; omega
    · rw [HDL.out.2]; have:=hF.le; omega
  have HSIZ:=hide hP.strs.size
  have HMP:Hid ((m:Int) - 1=(P:Int)):=by unfold Hid; omega
  have hlk:ks.length=l.length:=by rw [hP.inn.items,List.length_map]
  have hmk:m < ks.length:=by omega
  obtain ⟨g,hg⟩:=exq (ks[m])
  have HFIN:Hid (ks.getD m (noE,0)=g):=by unfold Hid; rw [List.getD_eq_getElem?_getD,List.getElem?_eq_getElem hmk,Option.getD_some]; exact hg
  have hgok:g.1.ok=true:=by
    obtain ⟨d0,rr,hrr⟩:=hP.inn.first
    refine (hP.inn.ok g ?_).1
    rw [← hg,List.mem_iff_getElem]
    exact ⟨m - 1,by rw [List.length_tail]; omega,by rw [List.getElem_tail]; congr 1; omega⟩
  have hgc:okC g.2=true:=hP.inn.kid g (by rw [← hg]; exact List.getElem_mem _)
  have HLM:Hid (∃ h:m < l.length,l[m]=g.1.encS g.2):=by
    refine ⟨by omega,?_⟩
    have e:=hP.inn.items
    subst e
    rw [List.getElem_map,hg]
  have HUN:Hid (∀ W,Calls Tryz.prog 45 #[.string (g.1.encS g.2)] W fun x w'=>x=.returned (.tuple #[.agg #[.string g.1.key,.int .i64 g.1.page,.int .i64 g.1.slot],.int .i64 g.2,.int .i64 0])∧Only (fun _=>False) W w'):=fun W=>by
    have q:=funsep_any (g.1.encS g.2) W (by have:=(encS_bounds hgok hgc).2; unfold maxLen; omega)
    rw [show bl (g.1.encS g.2)=g.1.layS g.2 from rfl,decS_lay (En.sp_iff.2 (.inr hgok)) hgc] at q
    exact q
  have HRAW:Hid (∀ W,Calls Tryz.prog 53 #[.agg #[.string g.1.key,.int .i64 g.1.page,.int .i64 g.1.slot]] W fun x w'=>x=.returned (.string g.1.enc)∧Only (fun _=>False) W w'):=fun W=>fraw_any g.1 W (En.few_ok hgok)
  have HSEP:Hid (∀ W,Calls Tryz.prog 54 #[.agg #[.string ⟨#[]⟩,.int .i64 0,.int .i64 0],.int .i64 g.2] W fun x w'=>x=.returned (.tuple #[.string (noE.encS g.2),.int .i64 0])∧Only (fun _=>False) W w'):=fun W=>by
    have q:=fsep_any noE g.2 W
    rw [show (noE.sp && okC g.2)=true by rw [hgc,En.sp_iff.2 (.inl rfl)]; rfl] at q
    exact q
  have HZS:=hide (noE_encS_sizeR g.2)
  have HDEC:Hid (∀ W,Calls Tryz.prog 25 #[.string g.1.enc] W fun x w'=>x=.returned (.tuple #[.agg #[.string g.1.key,.int .i64 g.1.page,.int .i64 g.1.slot],.int .i64 0])∧Only (fun _=>False) W w'):=fun W=>by
    have q:=fdecode_any g.1.enc W (by have:=(enc_bounds hgok).2; unfold maxLen; omega)
    rw [show bl g.1.enc=g.1.lay from rfl,decE_lay hgok] at q
    exact q
  rw [hm] at HM0
  have HMM:=hide hm
  have HA2:=hide hA2
  have HMB:=hide hmb
  clear hP hF hc hm hPm hA2 hmb hcell hSd hSt hCK hg hgok hgc hlk hmk
  go_enter Tryz.func21,Tryz.ntmps21
  go_upto_region 1 with fail
  obtain ⟨W0,hW0⟩:=exq (svI w a v r h (some ⟨B,o,none⟩) l.length cp)
  rw [hW0] at HX
  unfold svI at hW0
  rw [hW0]
  clear hW0
  obtain ⟨p0,p1,p2,p3,p4,p5,_⟩:=HX.out.pag
  go_wp2_with fail
  refine (HCK.out W0 HX.out.only).mono ?_
  rintro x w1 ⟨rfl,ho⟩
  have HX1:=hide (HX.out.more ho)
  clear ho p0 p1 p2 p3 p4 p5 HX HCK
  go_wp2_with fail
  refine (HIC.out _).mono ?_
  rintro x w3 ⟨rfl,h4⟩
  obtain rfl:=h4.symm
  clear h4
  go_upto_region 5 with fail
  rw [HM0.out]
  clear HM0 HIC hn2
  obtain ⟨p0,p1,p2,p3,p4,p5,_⟩:=HX1.out.pag
  have HA1:=hide (onlyA w1 (.cells #[.int .i64 a,.int .i64 3,.int .i64 v,.int .i64 r,.string h,.slice (some ⟨B,o,none⟩) l.length cp] 24))
  have HA2x:=hide (onlyA (w1.alloc (.cells #[.int .i64 a,.int .i64 3,.int .i64 v,.int .i64 r,.string h,.slice (some ⟨B,o,none⟩) l.length cp] 24)) (.cells #[.int .i64 a,.int .i64 3,.int .i64 v,.int .i64 r,.string h,.slice (some ⟨B,o,none⟩) l.length cp] 24))
  have HB:=hide ((Pag.new w1 (.int .i64 a) (.int .i64 3) (.int .i64 v) (.int .i64 r) (.string h) (.slice (some ⟨B,o,none⟩) l.length cp)).more (onlyA _ (.cells #[.int .i64 a,.int .i64 3,.int .i64 v,.int .i64 r,.string h,.slice (some ⟨B,o,none⟩) l.length cp] 24)))
  have HD:=hide (Pag.new (w1.alloc (.cells #[.int .i64 a,.int .i64 3,.int .i64 v,.int .i64 r,.string h,.slice (some ⟨B,o,none⟩) l.length cp] 24)) (.int .i64 a) (.int .i64 3) (.int .i64 v) (.int .i64 r) (.string h) (.slice (some ⟨B,o,none⟩) l.length cp))
  rw [World.size_alloc] at HD
  go_upto_region 6 with fail
  have p0:=(HX1.out.more HA1.out).pag.c0
  have p1:=(HX1.out.more HA1.out).pag.c1
  have p2:=(HX1.out.more HA1.out).pag.c2
  have p3:=(HX1.out.more HA1.out).pag.c3
  have p4:=(HX1.out.more HA1.out).pag.c4
  have p5:=(HX1.out.more HA1.out).pag.c5
  go_upto_region 7 with fail
  obtain ⟨W2,hW2⟩:=exq ((w1.alloc (.cells #[.int .i64 a,.int .i64 3,.int .i64 v,.int .i64 r,.string h,.slice (some ⟨B,o,none⟩) l.length cp] 24)).alloc (.cells #[.int .i64 a,.int .i64 3,.int .i64 v,.int .i64 r,.string h,.slice (some ⟨B,o,none⟩) l.length cp] 24))
  rw [hW2] at HB HD HA2x ⊢
  clear hW2
  have HX2:=hide ((HX1.out.more HA1.out).more HA2x.out)
  have HFB:Hid (w.heap.size+1+1+1 < w1.heap.size):=HX1.out.r3.lt
  obtain ⟨b,hb⟩:=exq (w1.heap.size)
  rw [hb] at HB HD HFB ⊢
  clear hb HX1 HA1 HA2x p0 p1 p2 p3 p4 p5
  obtain ⟨d,hd⟩:=exq (b+1)
  rw [hd] at HD ⊢
  have HBD:Hid (b < d):=by unfold Hid; omega
  clear hd
  -- the left half
  obtain ⟨v1,x3,hr1,hl1,ho1⟩:=append_strs (W2.alloc (.cells #[] 9)) 22 W2.heap.size (.slice (some ⟨W2.heap.size,0,none⟩) 0 0) [] (LsE W2) B cp (some ⟨B,o,none⟩) (l.take m) (HST.out _ (o2 HX2.out.only (onlyA _ _))) HFD.out.2 (by have:=HFEW.out; simp; omega) (by simp)
  rw [List.nil_append] at hl1
  rw [HDL.out.2] at hr1
  obtain ⟨B7,ao7,cp7,rfl,hs7,hf7,hb7,_⟩:=hl1.strs (by rw [HDL.out.2]; have:=HFEW.out; have:=HMB.out; omega) (fun s hs=>HSIZ.out s (List.mem_of_mem_take hs))
  rw [HDL.out.2] at hf7 hb7 hr1
  have HO3:Hid (Only (fun _=>False) W2 x3):=(onlyA W2 (.cells #[] 9)).trans ho1 (fun i hi e=>by omega)
  have HR1:=hide hr1
  have HS7:=hide hs7
  have HF7:=hide hf7
  have HB7:Hid (W2.heap.size≤B7):=hb7 (by have:=HMB.out; omega)
  have p5:=(HX2.out.more (onlyA W2 (.cells #[] 9))).pag.c5
  have q5:=(HB.out.more HO3.out).c5
  have qf5:=(HB.out.more HO3.out).f5
  have hcl:=HCP.out.1
  have hcb:=HCP.out.2
  unfold maxLen at hcb
  have hm0:(0:Int)≤(m:Int):=by omega
  have hm1:(m:Int)≤(l.length:Int):=by have:=HMB.out; omega
  have hm3:(m:Int)≤(cp:Int):=by omega
  have hm2:¬ (l.length:Int) < (m:Int):=by omega
  have hm4:¬ (cp:Int) < (m:Int):=by omega
  clear hr1 hl1 ho1 hs7 hf7 hb7
  go_upto_region 8 with (at_builtin; go_must (refine Lib.wpList_append_run _ rfl _ _ _ _ rfl _ _ rfl rfl _ _ HR1.out ?_))
  clear p5 q5 qf5 HR1
  have HBa:=hide ((HB.out.more HO3.out).set5 (.slice ao7 m cp7))
  have HOa:Hid (Only (fun k=>k=b) x3 (x3.setCell ⟨b,5,none⟩ (.slice ao7 m cp7))):=Only.setCell x3 ⟨b,5,none⟩ _ rfl
  have HDa:=hide ((HD.out.more HO3.out).kept HOa.out (by have:=HBD.out; omega))
  have HXa:=hide ((HX2.out.more HO3.out).kept HOa.out (fun k hk=>by have:=HFB.out; omega))
  have HBL:Hid (b < W2.heap.size∧d < W2.heap.size):=⟨HB.out.lt,HD.out.lt⟩
  have HS7a:=hide (HS7.out.kept HOa.out (fun _=>by have:=HB7.out; have:=HBL.out; omega))
  have HB7l:Hid (W2.heap.size≤B7∧w.heap.size≤B7):=⟨HB7.out,by have:=HX2.out.only.size; have:=HB7.out; omega⟩
  obtain ⟨X3,hX3⟩:=exq (x3.setCell ⟨b,5,none⟩ (.slice ao7 m cp7))
  rw [hX3] at HBa HDa HXa HS7a ⊢
  have HWX:Hid (W2.heap.size≤X3.heap.size):=by
    have:=HO3.out.size
    unfold Hid
    rw [← hX3]
    simpa using this
  clear hX3 HOa HO3 HS7 HB7 HB HD HX2
  -- the right half
  obtain ⟨v2,x4,hr2,hl2,ho2⟩:=append_strs (X3.alloc (.cells #[] 9)) 22 X3.heap.size (.slice (some ⟨X3.heap.size,0,none⟩) 0 0) [] (LsE X3) B (cp - m) A2 (l.drop m) (HSD.out _ (o2 HXa.out.only (onlyA _ _))) HFD.out.1 (by have:=HFEW.out; simp; omega) (by simp)
  rw [List.nil_append] at hl2
  rw [HDL.out.1] at hr2
  have HL2:=hide hl2
  obtain ⟨B5,ao5,cp5,rfl,hs5,hf5,hb5,ho5⟩:=hl2.strs (by rw [HDL.out.1]; have:=HFEW.out; omega) (fun s hs=>HSIZ.out s (List.mem_of_mem_drop hs))
  rw [HDL.out.1] at hf5 hb5 hr2
  have hao5:ao5=some ⟨B5,0,none⟩:=by
    rcases ho5 with rfl | h
    · have:=hs5.none_nil; have h3:=HDL.out.1; rw [this] at h3; have:=HMB.out; simp at h3; omega
    · exact h
  subst hao5
  have HO4:Hid (Only (fun _=>False) X3 x4):=(onlyA X3 (.cells #[] 9)).trans ho2 (fun i hi e=>by omega)
  have HR2:=hide hr2
  have HS5:=hide hs5
  have HF5:=hide hf5
  have HB5:Hid (X3.heap.size≤B5):=hb5 (by have:=HMB.out; omega)
  have HFR5:Hid (x4.frozen? ⟨B5,0,none⟩=false):=World.ownsRow.frozenAt HL2.out 0
  have p5:=(HXa.out.more (onlyA X3 (.cells #[] 9))).pag.c5
  have q5:=(HDa.out.more HO4.out).c5
  have qf5:=(HDa.out.more HO4.out).f5
  have hA2:=HA2.out
  clear hr2 hl2 ho2 hs5 hf5 hb5 ho5 HL2
  go_upto_region 9 with (at_builtin; go_must (refine Lib.wpList_append_run _ rfl _ _ _ _ rfl _ _ rfl rfl _ _ HR2.out ?_))
  clear p5 q5 qf5 HR2 hA2 hcl hcb hm0 hm1 hm2 hm3 hm4
  have HDb:=hide ((HDa.out.more HO4.out).set5 (.slice (some ⟨B5,0,none⟩) (l.length - m) cp5))
  have HOb:Hid (Only (fun k=>k=d) x4 (x4.setCell ⟨d,5,none⟩ (.slice (some ⟨B5,0,none⟩) (l.length - m) cp5))):=Only.setCell x4 ⟨d,5,none⟩ _ rfl
  have HBb:=hide ((HBa.out.more HO4.out).kept HOb.out (by have:=HBD.out; omega))
  have HXb:=hide ((HXa.out.more HO4.out).kept HOb.out (fun k hk=>by have:=HFB.out; have:=HBD.out; omega))
  have HFAR:Hid (w.heap.size+1+1+1 < b∧w.heap.size+1+1+1 < d∧b < B5∧d < B5∧b < B7∧d < B7∧B7 < B5):=by
    have:=HFB.out; have:=HBD.out; have:=HBL.out; have:=HB5.out; have:=HWX.out; have:=HB7l.out; have h7:=HS7a.out.lt (by have:=HMB.out; rw [HDL.out.2]; omega)
    unfold Hid
    omega
  have HS7b:=hide ((HS7a.out.more HO4.out).kept HOb.out (fun _=>by have:=HFAR.out; omega))
  have HS5b:=hide (HS5.out.kept HOb.out (fun _=>by have:=HFAR.out; omega))
  have HFR5b:Hid ((x4.setCell ⟨d,5,none⟩ (.slice (some ⟨B5,0,none⟩) (l.length - m) cp5)).frozen? ⟨B5,0,none⟩=false):=by unfold Hid; rw [← HFR5.out]; simp
  obtain ⟨X4,hX4⟩:=exq (x4.setCell ⟨d,5,none⟩ (.slice (some ⟨B5,0,none⟩) (l.length - m) cp5))
  rw [hX4] at HBb HDb HXb HS7b HS5b HFR5b ⊢
  have HN5:Hid (w.heap.size≤B5):=by have:=HFAR.out; unfold Hid; omega
  clear hX4 HOb HO4 HFR5 HS5 HBa HDa HXa HS7a HB5 HWX
  -- Right and High of the left half
  have p3:=HBb.out.c3
  have pf3:=HBb.out.f3
  go_upto_region 10 with fail
  clear p3 pf3
  have HOc:Hid (Only (fun k=>k=b) X4 (X4.setCell ⟨b,3,none⟩ (.int .i64 c))):=Only.setCell X4 ⟨b,3,none⟩ _ rfl
  have HBc:=hide (HBb.out.s3F (.int .i64 c))
  have HDc:=hide (HDb.out.kept HOc.out (by have:=HBD.out; omega))
  have HXc:=hide (HXb.out.kept HOc.out (fun k hk=>by have:=HFAR.out; omega))
  have HS7c:=hide (HS7b.out.kept HOc.out (fun _=>by have:=HFAR.out; omega))
  have HS5c:=hide (HS5b.out.kept HOc.out (fun _=>by have:=HFAR.out; omega))
  have HFR5c:Hid ((X4.setCell ⟨b,3,none⟩ (.int .i64 c)).frozen? ⟨B5,0,none⟩=false):=by unfold Hid; rw [← HFR5b.out]; simp
  obtain ⟨X5,hX5⟩:=exq (X4.setCell ⟨b,3,none⟩ (.int .i64 c))
  rw [hX5] at HBc HDc HXc HS7c HS5c HFR5c ⊢
  clear hX5 HOc HBb HDb HXb HS7b HS5b HFR5b
  have p5:=HXc.out.pag.c5
  have hlp:=HCELL.out X5 HXc.out.only P HPL.out
  have p4:=HBc.out.c4
  have pf4:=HBc.out.f4
  have hmp:=HMP.out
  have hwp:IntKind.i64.wrap (P:Int)=(P:Int):=by have:=HPL.out; have:=HFEW.out; rw [IntKind.wrap_i64]; omega
  have hb1:¬ (l.length:Int)≤(P:Int):=by have:=HPL.out; omega
  have hb2:(P:Int) < (l.length:Int):=by have:=HPL.out; omega
  obtain ⟨S1,hS1⟩:=exq (l[P]'HPL.out)
  rw [hS1] at hlp
  have HS1:=hide hS1
  clear hS1
  go_upto_region 11 with fail
  clear p5 hlp p4 pf4 hmp hwp hb1 hb2
  have HOd:Hid (Only (fun k=>k=b) X5 (X5.setCell ⟨b,4,none⟩ (.string S1))):=Only.setCell X5 ⟨b,4,none⟩ _ rfl
  have HBd:=hide (HBc.out.s4F (.string S1))
  have HDd:=hide (HDc.out.kept HOd.out (by have:=HBD.out; omega))
  have HXd:=hide (HXc.out.kept HOd.out (fun k hk=>by have:=HFAR.out; omega))
  have HS7d:=hide (HS7c.out.kept HOd.out (fun _=>by have:=HFAR.out; omega))
  have HS5d:=hide (HS5c.out.kept HOd.out (fun _=>by have:=HFAR.out; omega))
  have HFR5d:Hid ((X5.setCell ⟨b,4,none⟩ (.string S1)).frozen? ⟨B5,0,none⟩=false):=by unfold Hid; rw [← HFR5c.out]; simp
  obtain ⟨X6,hX6⟩:=exq (X5.setCell ⟨b,4,none⟩ (.string S1))
  rw [hX6] at HBd HDd HXd HS7d HS5d HFR5d ⊢
  clear hX6 HOd HBc HDc HXc HS7c HS5c HFR5c
  have p2:=HXd.out.pag.c2
  obtain ⟨E,hE⟩:=exq (g.1.enc)
  have HEE:=hide hE
  rw [hE] at HRAW HDEC
  clear hE
  obtain ⟨Z,hZ⟩:=exq (noE.encS g.2)
  have HZZ:=hide hZ
  rw [hZ] at HSEP HZS
  clear hZ
  obtain ⟨f,hf⟩:=exq (g.1)
  have HFG:=hide hf
  rw [hf] at HUN HRAW HDEC HLM HEE
  obtain ⟨kd,hkd⟩:=exq (g.2)
  have HKD:=hide hkd
  rw [hkd] at HUN HSEP HLM HZZ
  clear hf hkd
  obtain ⟨S2,hS2⟩:=exq (f.encS kd)
  rw [hS2] at HUN HLM
  clear hS2
  have p5:=HXd.out.pag.c5
  have hlm:=HCELL.out X6 HXd.out.only m HLM.out.1
  rw [HLM.out.2] at hlm
  have hb1:¬ (l.length:Int)≤(m:Int):=by have:=HMB.out; omega
  have hb2:(m:Int) < (l.length:Int):=by have:=HMB.out; omega
  go_wp2_with fail
  refine (HUN.out _).mono ?_
  rintro x w7 ⟨rfl,ho⟩
  clear p2 p5 hlm hb1 hb2
  have HA:=hide (onlyA w7 (.cells #[.string f.key,.int .i64 f.page,.int .i64 f.slot] 41))
  have HVe:=hide (Ev.new w7 f)
  have HXe:=hide ((HXd.out.more ho).more HA.out)
  have HBe:=hide ((HBd.out.more ho).more HA.out)
  have HDe:=hide ((HDd.out.more ho).more HA.out)
  have HS7e:=hide ((HS7d.out.more ho).more HA.out)
  have HS5e:=hide ((HS5d.out.more ho).more HA.out)
  have HFRe:Hid ((w7.alloc (.cells #[.string f.key,.int .i64 f.page,.int .i64 f.slot] 41)).frozen? ⟨B5,0,none⟩=false):=((o2 ho HA.out).frozen (p:=⟨B5,0,none⟩) (HS5d.out.lt (by have:=HMB.out; rw [HDL.out.1]; omega)) (fun h=>h)).trans HFR5d.out
  clear ho HXd HBd HDd HS7d HS5d HFR5d
  go_upto_region 13 with fail
  obtain ⟨X7,hX7⟩:=exq (w7.alloc (.cells #[.string f.key,.int .i64 f.page,.int .i64 f.slot] 41))
  rw [hX7] at HVe HXe HBe HDe HS7e HS5e HFRe ⊢
  clear hX7 HA
  obtain ⟨e0,e1,e2,_⟩:=HVe.out
  go_wp2_with fail
  refine (HRAW.out _).mono ?_
  rintro x w8 ⟨rfl,ho⟩
  clear e0 e1 e2
  have p4:=(HBe.out.more ho).c4
  have pf4:=(HBe.out.more ho).f4
  have HOf:Hid (Only (fun k=>k=b) w8 (w8.setCell ⟨b,4,none⟩ (.string E))):=Only.setCell w8 ⟨b,4,none⟩ _ rfl
  have HBf:=hide ((HBe.out.more ho).s4F (.string E))
  have HDf:=hide ((HDe.out.more ho).kept HOf.out (by have:=HBD.out; omega))
  have HXf:=hide ((HXe.out.more ho).kept HOf.out (fun k hk=>by have:=HFAR.out; omega))
  have HS7f:=hide ((HS7e.out.more ho).kept HOf.out (fun _=>by have:=HFAR.out; omega))
  have HS5f:=hide ((HS5e.out.more ho).kept HOf.out (fun _=>by have:=HFAR.out; omega))
  have HFRf:Hid ((w8.setCell ⟨b,4,none⟩ (.string E)).frozen? ⟨B5,0,none⟩=false):=by
    unfold Hid
    rw [← HFRe.out,← ho.frozen (p:=⟨B5,0,none⟩) (HS5e.out.lt (by have:=HMB.out; rw [HDL.out.1]; omega)) (fun h=>h)]
    simp
  clear ho HBe HDe HXe HS7e HS5e HFRe HVe
  go_upto_region 14 with fail
  clear p4 pf4
  obtain ⟨X8,hX8⟩:=exq (w8.setCell ⟨b,4,none⟩ (.string E))
  rw [hX8] at HBf HDf HXf HS7f HS5f HFRf ⊢
  clear hX8 HOf
  go_wp2_with fail
  refine (HSEP.out _).mono ?_
  rintro x w8b ⟨rfl,ho⟩
  have HBg:=hide (HBf.out.more ho)
  have HDg:=hide (HDf.out.more ho)
  have HXg:=hide (HXf.out.more ho)
  have HS7g:=hide (HS7f.out.more ho)
  have HS5g:=hide (HS5f.out.more ho)
  have HFRg:Hid (w8b.frozen? ⟨B5,0,none⟩=false):=(ho.frozen (p:=⟨B5,0,none⟩) (HS5f.out.lt (by have:=HMB.out; rw [HDL.out.1]; omega)) (fun h=>h)).trans HFRf.out
  clear ho HBf HDf HXf HS7f HS5f HFRf
  have q5:=HDg.out.c5
  obtain ⟨o5,he5,hc5⟩:=HS5g.out.at_ (by have:=HMB.out; rw [HDL.out.1]; omega)
  cases he5
  have q0:=hc5 0 (by have:=HMB.out; rw [HDL.out.1]; omega)
  rw [Nat.add_zero] at q0
  have qf0:=HFRg.out
  have hn0:(0:Int) < ((l.length - m:Nat):Int):=by have:=HMB.out; omega
  have hn1:¬ ((l.length - m:Nat):Int)≤0:=by omega
  have hn3:0 < l.length - m:=by omega
  obtain ⟨y0,hy0⟩:=exq ((l.drop m)[0]'(by have:=HMB.out; rw [HDL.out.1]; omega))
  rw [hy0] at q0
  clear hc5 hy0
  have HOh:Hid (Only (fun k=>k=B5) w8b (w8b.setCell ⟨B5,0,none⟩ (.string Z))):=Only.setCell w8b ⟨B5,0,none⟩ _ rfl
  have HBh:=hide (HBg.out.kept HOh.out (by have:=HFAR.out; omega))
  have HDh:=hide (HDg.out.kept HOh.out (by have:=HFAR.out; omega))
  have HXh:=hide (HXg.out.kept HOh.out (fun k hk=>by have:=HFAR.out; omega))
  have HS7h:=hide (HS7g.out.kept HOh.out (fun _=>by have:=HFAR.out; omega))
  have HS5h:=hide (HS5g.out.set0 (s:=Z) (by have:=HMB.out; rw [HDL.out.1]; omega) HZS.out)
  rw [List.tail_drop] at HS5h
  go_upto_region 16 with fail
  clear q5 q0 qf0 hn0 hn1 hn3
  obtain ⟨X9,hX9⟩:=exq (w8b.setCell ⟨B5,0,none⟩ (.string Z))
  rw [hX9] at HBh HDh HXh HS7h HS5h ⊢
  clear hX9 HOh HBg HDg HXg HS7g HS5g HFRg
  have p4:=HBh.out.c4
  go_wp2_with fail
  refine (HDEC.out _).mono ?_
  rintro x w9 ⟨rfl,ho⟩
  clear p4
  have HA:=hide (onlyA w9 (.cells #[.string f.key,.int .i64 f.page,.int .i64 f.slot] 41))
  have HV9:=hide (Ev.new w9 f)
  have HX9:=hide ((HXh.out.more ho).more HA.out)
  have HPL9:=hide ((HBh.out.more ho).more HA.out)
  have HP9:=hide ((HDh.out.more ho).more HA.out)
  have HSL9:=hide ((HS7h.out.more ho).more HA.out)
  have HSR9:=hide ((HS5h.out.more ho).more HA.out)
  have HFAR9:Hid (w.heap.size+1+1+1 < b∧w.heap.size+1+1+1 < d∧w.heap.size+1+1+1 < w9.heap.size∧w.heap.size+1+1+1 < B5∧w.heap.size+1+1+1 < B7):=by
    have:=HFAR.out
    have:=(HXh.out.more ho).r3.lt
    unfold Hid
    omega
  clear ho HXh HBh HDh HS7h HS5h
  go_upto_region 17 with fail
  obtain ⟨W9,hW9⟩:=exq (w9.alloc (.cells #[.string f.key,.int .i64 f.page,.int .i64 f.slot] 41))
  rw [hW9] at HV9 HX9 HPL9 HP9 HSL9 HSR9 ⊢
  clear hW9 HA
  obtain ⟨xb,hxb⟩:=exq (w9.heap.size)
  rw [hxb] at HV9 HFAR9 ⊢
  clear hxb
  refine wp_region_noPanic ?_
  refine wp_region_held_drew (S:=fun W=>Only (fun k=>k=w.heap.size+1∨k=w.heap.size+1+1∨k=w.heap.size+1+1+1) W9 W) (by kernel_rfl) (Only.drew _ _) (fun hHeld=>?_)
  refine tkQ 0 (.agg #[.int .i64 a,.int .i64 3,.int .i64 v,.int .i64 c,.string E,.slice ao7 m cp7]) rfl (yieldsIf_load_page (by rfl) _ rfl _ rfl (fun W hW=>HPL9.out.kept hW (by have:=HFAR9.out; omega))) ?_
  refine tkQ 1 (.agg #[.int .i64 a,.int .i64 3,.int .i64 v,.int .i64 r,.string h,.slice (some ⟨B5,0,none⟩) (l.length - m) cp5]) rfl (yieldsIf_load_page (by rfl) _ rfl _ rfl (fun W hW=>HP9.out.kept hW (by have:=HFAR9.out; omega))) ?_
  refine tkQ 2 (.agg #[.string f.key,.int .i64 f.page,.int .i64 f.slot]) rfl (yieldsIf_load_ev (by rfl) _ rfl rfl (fun W hW=>HV9.out.kept hW (by have:=HFAR9.out; omega))) ?_
  refine rd1 3 rfl (fun K hK=>?_)
  obtain ⟨q0,q1,q2,q3,q4,q5,g0,g1,g2,g3,g4,g5,ql⟩:=HX9.out.r1
  go_simp
  clear q0 q1 q2 q3 q4 q5 g0 g1 g2 g3 g4 g5 ql
  have HD1:Hid (Only (fun k=>k=w.heap.size+1) W9 ((((((W9.setCell ⟨w.heap.size+1,0,none⟩ (.int .i64 a)).setCell ⟨w.heap.size+1,1,none⟩ (.int .i64 3)).setCell ⟨w.heap.size+1,2,none⟩ (.int .i64 v)).setCell ⟨w.heap.size+1,3,none⟩ (.int .i64 c)).setCell ⟨w.heap.size+1,4,none⟩ (.string E)).setCell ⟨w.heap.size+1,5,none⟩ (.slice ao7 m cp7)).drew):=(Only.six W9 (w.heap.size+1) _ _ _ _ _ _).trans (Only.drew (fun _=>False) _) (fun _ _ h=>h.elim)
  have HR1a:=hide ((HX9.out.r1.six (.int .i64 a) (.int .i64 3) (.int .i64 v) (.int .i64 c) (.string E) (.slice ao7 m cp7)).more (Only.drew _ _))
  obtain ⟨Y1,hY1⟩:=exq (((((((W9.setCell ⟨w.heap.size+1,0,none⟩ (.int .i64 a)).setCell ⟨w.heap.size+1,1,none⟩ (.int .i64 3)).setCell ⟨w.heap.size+1,2,none⟩ (.int .i64 v)).setCell ⟨w.heap.size+1,3,none⟩ (.int .i64 c)).setCell ⟨w.heap.size+1,4,none⟩ (.string E)).setCell ⟨w.heap.size+1,5,none⟩ (.slice ao7 m cp7)).drew)
  rw [hY1] at HD1 HR1a ⊢
  clear hY1
  have HR2a:=hide (HX9.out.r2.kept HD1.out (by omega))
  have HR3a:=hide (HX9.out.r3.kept HD1.out (by omega))
  have HT1:Hid (Only (fun k=>k=w.heap.size+1∨k=w.heap.size+1+1∨k=w.heap.size+1+1+1) W9 Y1):=HD1.out.mono (fun _ _ h=>.inl h)
  refine hK.out _ _ (HT1.out) (fun hHeld=>?_)
  clear hK K
  try simp only [Act.put,lsA,lsB,lsC]
  refine rd1 4 rfl (fun K hK=>?_)
  obtain ⟨q0,q1,q2,q3,q4,q5,g0,g1,g2,g3,g4,g5,ql⟩:=HR2a.out
  go_simp
  clear q0 q1 q2 q3 q4 q5 g0 g1 g2 g3 g4 g5 ql
  have HD2:Hid (Only (fun k=>k=w.heap.size+1+1) Y1 ((((((Y1.setCell ⟨w.heap.size+1+1,0,none⟩ (.int .i64 a)).setCell ⟨w.heap.size+1+1,1,none⟩ (.int .i64 3)).setCell ⟨w.heap.size+1+1,2,none⟩ (.int .i64 v)).setCell ⟨w.heap.size+1+1,3,none⟩ (.int .i64 r)).setCell ⟨w.heap.size+1+1,4,none⟩ (.string h)).setCell ⟨w.heap.size+1+1,5,none⟩ (.slice (some ⟨B5,0,none⟩) (l.length - m) cp5))):=Only.six Y1 (w.heap.size+1+1) _ _ _ _ _ _
  have HR2b:=hide (HR2a.out.six (.int .i64 a) (.int .i64 3) (.int .i64 v) (.int .i64 r) (.string h) (.slice (some ⟨B5,0,none⟩) (l.length - m) cp5))
  obtain ⟨Y2,hY2⟩:=exq (((((((Y1.setCell ⟨w.heap.size+1+1,0,none⟩ (.int .i64 a)).setCell ⟨w.heap.size+1+1,1,none⟩ (.int .i64 3)).setCell ⟨w.heap.size+1+1,2,none⟩ (.int .i64 v)).setCell ⟨w.heap.size+1+1,3,none⟩ (.int .i64 r)).setCell ⟨w.heap.size+1+1,4,none⟩ (.string h)).setCell ⟨w.heap.size+1+1,5,none⟩ (.slice (some ⟨B5,0,none⟩) (l.length - m) cp5)))
  rw [hY2] at HD2 HR2b ⊢
  clear hY2
  have HR1b:=hide (HR1a.out.kept HD2.out (by omega))
  have HR3b:=hide (HR3a.out.kept HD2.out (by omega))
  have HT2:Hid (Only (fun k=>k=w.heap.size+1∨k=w.heap.size+1+1∨k=w.heap.size+1+1+1) W9 Y2):=HT1.out.trans HD2.out (fun _ _ h=>.inr (.inl h))
  refine hK.out _ _ (HT2.out) (fun hHeld=>?_)
  clear hK K
  try simp only [Act.put,lsA,lsB,lsC]
  refine rd1 5 rfl (fun K hK=>?_)
  obtain ⟨q0,q1,q2,g0,g1,g2,ql⟩:=HR3b.out
  go_simp
  clear q0 q1 q2 g0 g1 g2 ql
  have HD3:Hid (Only (fun k=>k=w.heap.size+1+1+1) Y2 (((Y2.setCell ⟨w.heap.size+1+1+1,0,none⟩ (.string f.key)).setCell ⟨w.heap.size+1+1+1,1,none⟩ (.int .i64 f.page)).setCell ⟨w.heap.size+1+1+1,2,none⟩ (.int .i64 f.slot))):=Only.three Y2 (w.heap.size+1+1+1) _ _ _
  have HR3:=hide (HR3b.out.all f)
  obtain ⟨Y3,hY3⟩:=exq ((((Y2.setCell ⟨w.heap.size+1+1+1,0,none⟩ (.string f.key)).setCell ⟨w.heap.size+1+1+1,1,none⟩ (.int .i64 f.page)).setCell ⟨w.heap.size+1+1+1,2,none⟩ (.int .i64 f.slot)))
  rw [hY3] at HD3 HR3 ⊢
  clear hY3
  have HR1:=hide (HR1b.out.kept HD3.out (by omega))
  have HR2:=hide (HR2b.out.kept HD3.out (by omega))
  have HT3:Hid (Only (fun k=>k=w.heap.size+1∨k=w.heap.size+1+1∨k=w.heap.size+1+1+1) W9 Y3):=HT2.out.trans HD3.out (fun _ _ h=>.inr (.inr h))
  have HSA:=hide (And.intro (HSL9.out.kept HT3.out (fun _=>by have:=HFAR9.out; omega)) (HSR9.out.kept HT3.out (fun _=>by have:=HFAR9.out; omega)))
  have HOA:Hid (Only (fun _=>False) w Y3):=HX9.out.only.trans HT3.out (fun i hi e=>by omega)
  refine hK.out _ _ (HT3.out) (fun hHeld=>?_)
  clear hK K
  try simp only [Act.put,lsA,lsB,lsC]
  refine tkP 6 (.int .i64 0) rfl ?_
  refine dnN ?_
  go_wp2_with fail
  refine bodyPost_ret (results_split rfl rfl rfl rfl HR1.out HR2.out HR3.out) rfl ?_
  rw [HMM.out,HFIN.out,HFG.out,HKD.out,HZZ.out]
  refine ⟨B7,ao7,cp7,B5,_,cp5,?_,HSA.out.1,HSA.out.2,HF7.out,HF5.out,HB7l.out.2,HN5.out,HOA.out⟩
  rw [← HEE.out]
  rfl
end Go.Proofs.YtipkeeobmihogaaGreat
