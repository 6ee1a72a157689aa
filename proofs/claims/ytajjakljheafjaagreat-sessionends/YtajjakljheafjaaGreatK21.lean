/- Parts. -/
import Derived.Test.YtajjakljheafjaaGreatK18
import Derived.Test.YtajjakljheafjaaGreatK20
set_option maxRecDepth 100000
namespace Go.Proofs.YtajjakljheafjaaGreat
open Go.RowKit
structure SvI (w W:World) (a v r:Int) (h:ByteArray) (ao:Option Addr) (n cp:Nat):Prop where
  pag:Pag W w.heap.size (.int .i64 a) (.int .i64 3) (.int .i64 v) (.int .i64 r) (.string h) (.slice ao n cp)
  r1:Pag W (w.heap.size+1) (.int .i64 0) (.int .i64 0) (.int .i64 0) (.int .i64 0) (.string ⟨#[]⟩) (.slice none 0 0)
  r2:Pag W (w.heap.size+1+1) (.int .i64 0) (.int .i64 0) (.int .i64 0) (.int .i64 0) (.string ⟨#[]⟩) (.slice none 0 0)
  r3:Ev W (w.heap.size+1+1+1) noE
  only:Only (fun _=>False) w W
theorem SvI.more {w W W':World} {a v r:Int} {h:ByteArray} {ao:Option Addr} {n cp:Nat} (x:SvI w W a v r h ao n cp) (ho:Only (fun _=>False) W W'):SvI w W' a v r h ao n cp:=⟨x.pag.more ho,x.r1.more ho,x.r2.more ho,x.r3.more ho,o2 x.only ho⟩
theorem SvI.kept {w W W':World} {a v r:Int} {h:ByteArray} {ao:Option Addr} {n cp:Nat} {S:Nat→Prop} (x:SvI w W a v r h ao n cp) (ho:Only S W W') (hS:∀ k,S k→w.heap.size+1+1+1 < k):SvI w W' a v r h ao n cp :=
  ⟨x.pag.kept ho (fun s=>by have:=hS _ s; omega),x.r1.kept ho (fun s=>by have:=hS _ s; omega),x.r2.kept ho (fun s=>by have:=hS _ s; omega),x.r3.kept ho (fun s=>by have:=hS _ s; omega),x.only.trans ho (fun i hi s=>by have:=hS _ s; omega)⟩
def svI (w:World) (a v r:Int) (h:ByteArray) (ao:Option Addr) (n cp:Nat):World:=(((w.alloc (.cells #[.int .i64 a,.int .i64 3,.int .i64 v,.int .i64 r,.string h,.slice ao n cp] 37)).alloc (.cells #[.int .i64 0,.int .i64 0,.int .i64 0,.int .i64 0,.string ⟨#[]⟩,.slice none 0 0] 37)).alloc (.cells #[.int .i64 0,.int .i64 0,.int .i64 0,.int .i64 0,.string ⟨#[]⟩,.slice none 0 0] 37)).alloc (.cells #[.string ⟨#[]⟩,.int .i64 0,.int .i64 0] 89)
theorem SvI.new (w:World) (a v r:Int) (h:ByteArray) (ao:Option Addr) (n cp:Nat):SvI w (svI w a v r h ao n cp) a v r h ao n cp:=by
  unfold svI
  have e1:=Pag.new (w.alloc (.cells #[.int .i64 a,.int .i64 3,.int .i64 v,.int .i64 r,.string h,.slice ao n cp] 37)) (.int .i64 0) (.int .i64 0) (.int .i64 0) (.int .i64 0) (.string ⟨#[]⟩) (.slice none 0 0)
  rw [World.size_alloc] at e1
  have e2:=Pag.new ((w.alloc (.cells #[.int .i64 a,.int .i64 3,.int .i64 v,.int .i64 r,.string h,.slice ao n cp] 37)).alloc (.cells #[.int .i64 0,.int .i64 0,.int .i64 0,.int .i64 0,.string ⟨#[]⟩,.slice none 0 0] 37)) (.int .i64 0) (.int .i64 0) (.int .i64 0) (.int .i64 0) (.string ⟨#[]⟩) (.slice none 0 0)
  rw [World.size_alloc,World.size_alloc] at e2
  have e3:=Ev.zero (((w.alloc (.cells #[.int .i64 a,.int .i64 3,.int .i64 v,.int .i64 r,.string h,.slice ao n cp] 37)).alloc (.cells #[.int .i64 0,.int .i64 0,.int .i64 0,.int .i64 0,.string ⟨#[]⟩,.slice none 0 0] 37)).alloc (.cells #[.int .i64 0,.int .i64 0,.int .i64 0,.int .i64 0,.string ⟨#[]⟩,.slice none 0 0] 37))
  rw [World.size_alloc,World.size_alloc,World.size_alloc] at e3
  exact ⟨(Pag.new w _ _ _ _ _ _).more (o2 (o2 (onlyA _ _) (onlyA _ _)) (onlyA _ _)),e1.more (o2 (onlyA _ _) (onlyA _ _)),e2.more (onlyA _ _),e3,o2 (o2 (o2 (onlyA _ _) (onlyA _ _)) (onlyA _ _)) (onlyA _ _)⟩
theorem Strs.set0 {w:World} {B cp0:Nat} {l:List ByteArray} {s:ByteArray} (h:Strs w B (some ⟨B,cp0,none⟩) l) (h0:0 < l.length) (hs:s.size≤55):Strs (w.setCell ⟨B,cp0,none⟩ (.string s)) B (some ⟨B,cp0,none⟩) (s :: l.tail):=by
  obtain ⟨o,e,hc⟩:=h.at_ h0
  cases e
  have hl:(s :: l.tail).length=l.length:=by rw [List.length_cons,List.length_tail]; omega
  refine ⟨fun _=>⟨cp0,rfl,fun j hj=>?_⟩,fun _=>by have:=h.lt h0; simpa using this,by rw [hl]; exact h.len,?_⟩
  · cases j with
    | zero=>
      have:=hc 0 h0
      exact World.cell?_setCell_same _ _ _ this
    | succ j=>
      have hj':j+1 < l.length:=by rw [hl] at hj; exact hj
      rw [othN _ B cp0 (cp0+(j+1)) _ _ (by omega) (hc (j+1) hj')]
      simp
  · intro x hx
    rcases List.mem_cons.1 hx with rfl | hx
    · omega
    · exact h.size x (List.mem_of_mem_tail hx)
theorem noE_encS_sizeR (c:Int):(noE.encS c).size≤55:=by
  rw [← bl_len (noE.encS c),bl_encS]
  exact layS_len c (by decide)
set_option maxHeartbeats 3200000 in
theorem split_inner (w:World) (a v r:Int) (h:ByteArray) (hi:En) (c:Int) (B cp:Nat) (ao:Option Addr) (l:List ByteArray) (ks:List (En × Int)) (hP:Ip w v r h hi B ao l ks) (hF:Fit ao l.length cp) (hc:okC c=true) (hn:2≤l.length) :
    Calls Tryz.prog 185 #[.agg #[.int .i64 a,.int .i64 3,.int .i64 v,.int .i64 r,.string h,.slice ao l.length cp],.int .i64 c] w fun x w'=>SplN w w' x a v r h c l ((l.length+1) / 2) (l.length - (l.length+1) / 2) (ks.getD ((l.length+1) / 2) (noE,0)).1 (noE.encS (ks.getD ((l.length+1) / 2) (noE,0)).2 :: l.drop ((l.length+1) / 2+1)):=by
  obtain ⟨o,rfl,_⟩:=hP.strs.at_ (by omega)
  have HX:=hide (SvI.new w a v r h (some ⟨B,o,none⟩) l.length cp)
  have HR:=hide (read_inner _ a v r h hi B cp (some ⟨B,o,none⟩) l ks (hP.more HX.out.only))
  have HIC:Hid (∀ W,Calls Tryz.prog 146 #[.int .i64 c] W fun x w'=>x=.returned (.bool true)∧w'=W):=fun W=>by
    have:=isChild_any c W
    rwa [hc] at this
  obtain ⟨es,hes⟩:=exq (ks.map Prod.fst)
  have HEN:Hid (es.length=ks.length):=by unfold Hid; rw [← hes,List.length_map]
  have HLEN:Hid (es.length=l.length):=by unfold Hid; rw [HEN.out,hP.inn.items,List.length_map]
  have hv0:0 < v:=by have:=hP.level; omega
  have HFEW:=hide hP.few
  have HS:=hide hP.strs
  have HF:=hide hF
  have hn2:¬ (l.length:Int) < 2:=by omega
  have HCP:=hide (And.intro hF.le hF.big)
  have HM0:=hide (half_eq l.length hP.few)
  obtain ⟨m,hm⟩:=exq ((l.length+1) / 2)
  have hmb:1≤m∧m < l.length:=by omega
  obtain ⟨P,hPm⟩:∃ P,m=P+1:=⟨m - 1,by omega⟩
  have HPE:Hid (P < es.length):=by have:=HLEN.out; unfold Hid; omega
  obtain ⟨A2,hA2⟩:=exq ((if cp=m then some (⟨B,o,none⟩:Addr) else some ⟨B,o+m,none⟩))
  have HCL2:Hid (∀ W,Only (fun _=>False) w W→Calls Tryz.prog 77 #[.slice A2 (l.length - m) (cp - m)] W fun x w'=>∃ B5 ao5 cp5,x=.returned (.slice ao5 (l.length - m) cp5)∧Strs w' B5 ao5 (l.drop m)∧Only (fun _=>False) W w'∧W.heap.size≤B5∧Fit ao5 (l.length - m) cp5∧ao5=some ⟨B5,0,none⟩∧(∀ j,w'.frozen? ⟨B5,j,none⟩=false)):=fun W ho=>clone_own W B (cp - m) (l.length - m) A2 (l.drop m) (by simp) ((hP.strs.more ho).drop m A2 (fun _=>by rw [← hA2,if_neg (by have:=hF.le; omega)])) (by first | (rw [List.length_drop]; omega) | (rw [List.length_take]; omega))
  have HCL1:Hid (∀ W,Only (fun _=>False) w W→Calls Tryz.prog 77 #[.slice (some ⟨B,o,none⟩) m cp] W fun x w'=>∃ B5 ao5 cp5,x=.returned (.slice ao5 m cp5)∧Strs w' B5 ao5 (l.take m)∧Only (fun _=>False) W w'∧W.heap.size≤B5∧Fit ao5 m cp5∧ao5=some ⟨B5,0,none⟩∧(∀ j,w'.frozen? ⟨B5,j,none⟩=false)):=fun W ho=>clone_own W B cp m (some ⟨B,o,none⟩) (l.take m) (by simp; omega) ((hP.strs.more ho).take m) (by first | (rw [List.length_drop]; omega) | (rw [List.length_take]; omega))
  have HDL:Hid (0 < (l.drop m).length∧0 < (l.take m).length):=by unfold Hid; rw [List.length_drop,List.length_take]; omega
  have hmk:m < ks.length:=by have:=HLEN.out; have:=HEN.out; omega
  have hme:m < es.length:=by have:=HLEN.out; omega
  obtain ⟨g,hg⟩:=exq (ks[m])
  have HG:Hid (ks.getD m (noE,0)=g):=by unfold Hid; rw [List.getD_eq_getElem?_getD,List.getElem?_eq_getElem hmk,Option.getD_some]; exact hg
  have HGE:Hid (∀ hh:m < es.length,es[m]=g.1):=by intro hh; rw [← hg]; simp only [← hes,List.getElem_map]
  have hgok:g.1.ok=true:=by
    obtain ⟨d0,rr,hrr⟩:=hP.inn.first
    refine (hP.inn.ok g ?_).1
    rw [← hg,List.mem_iff_getElem]
    exact ⟨m - 1,by rw [List.length_tail]; omega,by rw [List.getElem_tail]; congr 1; omega⟩
  have hgc:okC g.2=true:=hP.inn.kid g (by rw [← hg]; exact List.getElem_mem _)
  have HLD:Hid (∀ W,Calls Tryz.prog 88 #[.agg #[.string g.1.key,.int .i64 g.1.page,.int .i64 g.1.slot],.slice none 0 0] W fun x w'=>x=.returned (.string g.1.enc)∧Only (fun _=>False) W w'):=fun W=>laid_one _ W (En.few_ok hgok)
  have HLD2:Hid (∀ W:World,Calls Tryz.prog 88 #[.agg #[.string ⟨#[]⟩,.int .i64 0,.int .i64 0],.slice (some ⟨W.heap.size,0,none⟩) 1 1] (W.alloc (.cells #[.int .i64 g.2] 3)) fun x w'=>x=.returned (.string (noE.encS g.2))∧Only (fun _=>False) (W.alloc (.cells #[.int .i64 g.2] 3)) w'):=fun W=>laid_two noE W _ g.2 (En.few_sp (En.sp_iff.2 (.inl rfl))) (by have:=okC_iff.1 hgc; omega) (Only.refl _ _)
  have HMK:Hid (m < es.length∧m < ks.length):=⟨hme,hmk⟩
  have HKM:Hid (∀ hh:m < ks.length,ks[m]=g):=fun _=>hg
  have HMP:Hid ((m:Int) - 1=(P:Int)):=by unfold Hid; omega
  rw [hm] at HM0
  have HMM:=hide hm
  have HA2:=hide hA2
  have HMB:=hide hmb
  clear hP hF hc hm hPm hA2 hmb hg hgok hgc hme hmk
  go_enter Tryz.func185,Tryz.ntmps185
  go_upto_region 1 with fail
  obtain ⟨W0,hW0⟩:=exq (svI w a v r h (some ⟨B,o,none⟩) l.length cp)
  rw [hW0] at HX HR
  unfold svI at hW0
  rw [hW0]
  clear hW0
  obtain ⟨p0,p1,p2,p3,p4,p5,_⟩:=HX.out.pag
  go_wp2_with fail
  refine HR.out.mono ?_
  rintro x w1 ⟨A,C,A2',C2',rfl,he,hk,ho⟩
  rw [hes] at he
  have hes2:=HEN.out
  unfold cvv
  have HX1:=hide (HX.out.more ho)
  have HE1:=hide he
  have HK1:=hide hk
  rw [← hes2] at HK1 ⊢
  clear hes2 he hk ho p0 p1 p2 p3 p4 p5 HR HX
  go_upto_region 2 with fail
  have HA:=hide (onlyA w1 (.cells #[.slice A es.length C,.slice A2' es.length C2',.string hi.key,.int .i64 hi.page,.int .i64 hi.slot] 164))
  have HC:=hide (Cv.new w1 (.slice A es.length C) (.slice A2' es.length C2') hi)
  obtain ⟨cb,hcb⟩:=exq (w1.heap.size)
  rw [hcb] at HC ⊢
  clear hcb
  obtain ⟨w2,hw2⟩:=exq (w1.alloc (.cells #[.slice A es.length C,.slice A2' es.length C2',.string hi.key,.int .i64 hi.page,.int .i64 hi.slot] 164))
  rw [hw2] at HA HC ⊢
  clear hw2
  have HX2:=hide (HX1.out.more HA.out)
  have HE2:=hide (HE1.out.more HA.out)
  have HK2:=hide (HK1.out.more HA.out)
  clear HA HX1 HE1 HK1
  have p5:=HX2.out.pag.c5
  go_wp2_with fail
  refine (HIC.out _).mono ?_
  rintro x w3 ⟨rfl,h4⟩
  obtain rfl:=h4.symm
  go_upto_region 5 with fail
  rw [HM0.out]
  clear p5 HM0 HIC
  obtain ⟨Be,hels,_⟩:=HE2.out.elsOf
  obtain ⟨oe,rfl,heb⟩:=hels.of P HPE.out
  obtain ⟨f,hf⟩:=exq (es[P]'HPE.out)
  rw [hf] at heb
  clear hels hf
  obtain ⟨e0,e1,e2,_⟩:=heb
  have q0:=HC.out.c0
  have hmp:=HMP.out
  have hwp:IntKind.i64.wrap (P:Int)=(P:Int):=by have:=HPE.out; have:=HLEN.out; have:=HFEW.out; rw [IntKind.wrap_i64]; omega
  have hb1:¬ (es.length:Int)≤(P:Int):=by have:=HPE.out; omega
  have hb2:(P:Int) < (es.length:Int):=by have:=HPE.out; omega
  go_upto_region 6 with fail
  clear e0 e1 e2 q0 hmp hwp hb1 hb2 HMP
  have HA:=hide (onlyA w2 (.cells #[.string f.key,.int .i64 f.page,.int .i64 f.slot] 89))
  have HV3:=hide (Ev.new w2 f)
  have HZ3:Hid (w.heap.size+1+1+1 < w2.heap.size):=HX2.out.r3.lt
  have HCL:Hid (cb < w2.heap.size):=HC.out.lt
  have HKL:Hid (∀ k,(Value.slice A2' es.length C2').ownBlock=some k→k < w2.heap.size):=fun k hk=>(World.ownsRow.lt HK2.out k hk).2
  obtain ⟨bb,hbb⟩:=exq (w2.heap.size)
  rw [hbb] at HV3 HZ3 HCL HKL ⊢
  clear hbb
  obtain ⟨w3,hw3⟩:=exq (w2.alloc (.cells #[.string f.key,.int .i64 f.page,.int .i64 f.slot] 89))
  rw [hw3] at HA HV3 ⊢
  clear hw3
  have HX3:=hide (HX2.out.more HA.out)
  have HE3:=hide (HE2.out.more HA.out)
  have HK3:=hide (HK2.out.more HA.out)
  have HC3:=hide (HC.out.more HA.out)
  clear HA HX2 HC HE2 HK2
  have p5:=HX3.out.pag.c5
  have hcl:=HCP.out.1
  have hcb:=HCP.out.2
  unfold maxLen at hcb
  have hA2:=HA2.out
  have hm0:(0:Int)≤(m:Int):=by omega
  have hm1:(m:Int)≤(l.length:Int):=by have:=HMB.out; omega
  have hm2:¬ (l.length:Int) < (m:Int):=by omega
  go_wp2_with fail
  clear p5 hA2
  refine (HCL2.out _ HX3.out.only).mono ?_
  rintro x w4 ⟨B5,ao5,cp5,rfl,hS5,ho5,hB5,hF5,hao5,hfr5⟩
  have HF5:=hide hF5
  have HN5:Hid (w.heap.size≤B5):=Nat.le_trans HX3.out.only.size hB5
  have HX4:=hide (HX3.out.more ho5)
  have HV4:=hide (HV3.out.more ho5)
  have HS5:=hide hS5
  have HB5:Hid (bb < B5):=by
    have:=hB5
    have:=HV3.out.lt
    unfold Hid
    omega
  have HE4:=hide (HE3.out.more ho5)
  have HK4:=hide (HK3.out.more ho5)
  have HC4:=hide (HC3.out.more ho5)
  subst hao5
  have HFR5:=hide hfr5
  have HZ4:Hid (bb < w4.heap.size):=HV4.out.lt
  clear hS5 ho5 hB5 hF5 hfr5 HX3 HV3 HCL2 HE3 HK3 HC3
  have p2:=HX4.out.pag.c2
  obtain ⟨Be2,hels2,_⟩:=HE4.out.elsOf
  obtain ⟨oe2,hAe,heb2⟩:=hels2.of m HMK.out.1
  cases hAe
  rw [HGE.out HMK.out.1] at heb2
  obtain ⟨e0,e1,e2,_⟩:=heb2
  clear hels2
  have q0:=HC4.out.c0
  obtain ⟨b0,b1,b2,t0,t1,t2,_⟩:=HV4.out
  have hb1:¬ (es.length:Int)≤(m:Int):=by have:=HMK.out; omega
  have hb2:(m:Int) < (es.length:Int):=by have:=HMK.out; omega
  go_upto_region 9 with fail
  clear p2 e0 e1 e2 q0 b0 b1 b2 t0 t1 t2 HE4
  have HV5a:=hide (HV4.out.all g.1)
  have HOT:=hide (Only.three w4 bb (.string g.1.key) (.int .i64 g.1.page) (.int .i64 g.1.slot))
  obtain ⟨wa,hwa⟩:=exq (((w4.setCell ⟨bb,0,none⟩ (.string g.1.key)).setCell ⟨bb,1,none⟩ (.int .i64 g.1.page)).setCell ⟨bb,2,none⟩ (.int .i64 g.1.slot))
  rw [hwa] at HV5a HOT ⊢
  clear hwa
  have HXa:=hide (HX4.out.kept HOT.out (fun k hk=>by have:=HZ3.out; omega))
  have HSa:=hide (HS5.out.kept HOT.out (fun _=>by have:=HB5.out; omega))
  have HFRa:Hid (∀ j,wa.frozen? ⟨B5,j,none⟩=false):=fun j=>(HOT.out.frozen (p:=⟨B5,j,none⟩) (HS5.out.lt HDL.out.1) (by have:=HB5.out; show ¬ B5=bb; omega)).trans (HFR5.out j)
  have HCB:Hid (cb < bb):=by have:=HC4.out.lt; have:=HCL.out; unfold Hid; omega
  have HCa:=hide (HC4.out.kept HOT.out (by have:=HCB.out; omega))
  obtain ⟨gk,cpk,hKv,hgk0,hgk1,hkc⟩:=HK4.out.at_ m (by rw [List.length_map]; exact HMK.out.2)
  have HKB:Hid (gk≠bb):=by have:=HKL.out gk (by rw [hKv]; rfl); unfold Hid; omega
  have hkc2:=(HOT.out.cell (p:=⟨gk,m,none⟩) hgk1 (by have:=HKB.out; exact this)).trans hkc
  rw [List.length_map] at hKv
  have hes2:=HEN.out
  rw [← hes2] at hKv
  cases hKv
  simp only [List.getElem_map] at hkc2
  rw [HKM.out HMK.out.2] at hkc2
  clear hkc hes2 hgk0 hgk1 HK4 HC4 HX4 HV4 HS5 HFR5
  have q1:=HCa.out.c1
  go_wp2_with fail
  refine (HLD2.out wa).mono ?_
  rintro x wb ⟨rfl,hob⟩
  have HOb:=hide (o2 (onlyA wa (.cells #[.int .i64 g.2] 3)) hob)
  clear hob q1 hkc2 hb1 hb2 HLD2
  obtain ⟨sN,hsN⟩:=exq (noE.encS g.2)
  rw [hsN]
  have HSN:=hide hsN
  clear hsN
  have HXb:=hide (HXa.out.more HOb.out)
  have HVb:=hide (HV5a.out.more HOb.out)
  have HSb:=hide (HSa.out.more HOb.out)
  have hfb:=(HOb.out.frozen (p:=⟨B5,0,none⟩) (HSa.out.lt HDL.out.1) (fun h=>h)).trans (HFRa.out 0)
  obtain ⟨o5,ho5,hc5⟩:=HSb.out.at_ HDL.out.1
  cases ho5
  have hc50:=hc5 0 HDL.out.1
  rw [Nat.zero_add] at hc50
  have HZb:Hid (B5 < wb.heap.size):=HSb.out.lt HDL.out.1
  clear hc5 HXa HV5a HSa HFRa HCa
  have hlm:¬ ((l.length - m:Nat):Int)≤0:=by have:=HMB.out; omega
  have hlm2:(0:Int) < ((l.length - m:Nat):Int):=by have:=HMB.out; omega
  go_upto_region 10 with fail
  clear hcl hcb hm0 hm1 hm2 hfb hc50 hlm hlm2
  have HOc:Hid (Only (fun k=>k=B5) wb (wb.setCell ⟨B5,0,none⟩ (.string sN))):=Only.setCell wb ⟨B5,0,none⟩ _ rfl
  have HS5:=hide (HSb.out.set0 (s:=sN) HDL.out.1 (by rw [← HSN.out]; exact noE_encS_sizeR g.2))
  obtain ⟨w4b,hw4b⟩:=exq (wb.setCell ⟨B5,0,none⟩ (.string sN))
  rw [hw4b] at HOc HS5 ⊢
  clear hw4b
  have HX4:=hide (HXb.out.kept HOc.out (fun k hk=>by have:=HB5.out; have:=HZ3.out; omega))
  have HV4:=hide (HVb.out.kept HOc.out (by have:=HB5.out; omega))
  clear HXb HVb HSb HOc HOb HOT
  go_cut [13,14] (fun x y wx=>∃ b d,x=.pointer (some ⟨b,0,none⟩)∧y=.pointer (some ⟨d,0,none⟩)∧Hid (Pag wx b (.int .i64 a) (.int .i64 3) (.int .i64 v) (.int .i64 r) (.string h) (.slice (some ⟨B,o,none⟩) l.length cp)∧Pag wx d (.int .i64 a) (.int .i64 3) (.int .i64 v) (.int .i64 r) (.string h) (.slice (some ⟨B,o,none⟩) l.length cp))∧Hid (Only (fun _=>False) w4b wx∧w4b.heap.size≤b∧w4b.heap.size≤d∧b≠d))
  case first=>
    -- {r10
    refine wp_region_noPanic ?_
    refine wp_region_held_drew (S:=fun W=>Only (fun _=>False) w4b W) (by kernel_rfl) (Only.drew _ _) (fun hHeld=>?_)
    refine tkQ 0 (.agg #[.int .i64 a,.int .i64 3,.int .i64 v,.int .i64 r,.string h,.slice (some ⟨B,o,none⟩) l.length cp]) rfl (yieldsIf_load_page (by rfl) _ rfl _ rfl (fun W hW=>HX4.out.pag.more hW)) ?_
    refine tkQ 1 (.agg #[.int .i64 a,.int .i64 3,.int .i64 v,.int .i64 r,.string h,.slice (some ⟨B,o,none⟩) l.length cp]) rfl (yieldsIf_load_page (by rfl) _ rfl _ rfl (fun W hW=>HX4.out.pag.more hW)) ?_
    refine wpAnyH_ready (rs:=[2,3]) (by kernel_rfl) (by simp) ?_
    refine arC rfl (fun K hK=>?_) (arC rfl (fun K hK=>?_) (AllReadyH.nil))
    · go_simp
      refine hK.out _ _ (o2 (onlyA _ _) (Only.drew _ _)) (fun hHeld=>?_)
      clear hK K
      try simp only [Act.put,lsA,lsB,lsC]
      refine rd1 3 rfl (fun K hK=>?_)
      go_simp
      refine hK.out _ _ (o2 (o2 (onlyA _ _) (onlyA _ _)) (Only.drew _ _)) (fun hHeld=>?_)
      clear hK K
      try simp only [Act.put,lsA,lsB,lsC]
      refine rd1 4 rfl (fun K hK=>?_)
      go_simp
      refine hK.out _ _ (o2 (o2 (onlyA _ _) (onlyA _ _)) (Only.drew _ _)) (fun hHeld=>?_)
      clear hK K
      try simp only [Act.put,lsA,lsB,lsC]
      refine rd1 5 rfl (fun K hK=>?_)
      go_simp
      have HPG:Hid (Pag ((w4b.alloc (.cells #[.int .i64 a,.int .i64 3,.int .i64 v,.int .i64 r,.string h,.slice (some ⟨B,o,none⟩) l.length cp] 37)).alloc (.cells #[.int .i64 a,.int .i64 3,.int .i64 v,.int .i64 r,.string h,.slice (some ⟨B,o,none⟩) l.length cp] 37)).drew (w4b.heap.size) (.int .i64 a) (.int .i64 3) (.int .i64 v) (.int .i64 r) (.string h) (.slice (some ⟨B,o,none⟩) l.length cp)∧Pag ((w4b.alloc (.cells #[.int .i64 a,.int .i64 3,.int .i64 v,.int .i64 r,.string h,.slice (some ⟨B,o,none⟩) l.length cp] 37)).alloc (.cells #[.int .i64 a,.int .i64 3,.int .i64 v,.int .i64 r,.string h,.slice (some ⟨B,o,none⟩) l.length cp] 37)).drew (w4b.heap.size+1) (.int .i64 a) (.int .i64 3) (.int .i64 v) (.int .i64 r) (.string h) (.slice (some ⟨B,o,none⟩) l.length cp)):=⟨(Pag.at w4b _ rfl _ _ _ _ _ _).more (o2 (onlyA _ _) (Only.drew _ _)),(Pag.at (w4b.alloc (.cells #[.int .i64 a,.int .i64 3,.int .i64 v,.int .i64 r,.string h,.slice (some ⟨B,o,none⟩) l.length cp] 37)) _ (by simp) _ _ _ _ _ _).more (Only.drew _ _)⟩
      have HOX:Hid (Only (fun _=>False) w4b ((w4b.alloc (.cells #[.int .i64 a,.int .i64 3,.int .i64 v,.int .i64 r,.string h,.slice (some ⟨B,o,none⟩) l.length cp] 37)).alloc (.cells #[.int .i64 a,.int .i64 3,.int .i64 v,.int .i64 r,.string h,.slice (some ⟨B,o,none⟩) l.length cp] 37)).drew∧w4b.heap.size≤w4b.heap.size∧w4b.heap.size≤w4b.heap.size+1∧w4b.heap.size≠w4b.heap.size+1):=⟨o2 (o2 (onlyA _ _) (onlyA _ _)) (Only.drew _ _),by omega,by omega,by omega⟩
      refine hK.out _ _ (HOX.out.1) (fun hHeld=>?_)
      clear hK K
      try simp only [Act.put,lsA,lsB,lsC]
      refine dnN ?_
      go_wp2_with fail
      go_meet
      exact ⟨_,_,rfl,rfl,HPG,HOX⟩
    · go_simp
      refine hK.out _ _ (o2 (onlyA _ _) (Only.drew _ _)) (fun hHeld=>?_)
      clear hK K
      try simp only [Act.put,lsA,lsB,lsC]
      refine rd1 2 rfl (fun K hK=>?_)
      go_simp
      refine hK.out _ _ (o2 (o2 (onlyA _ _) (onlyA _ _)) (Only.drew _ _)) (fun hHeld=>?_)
      clear hK K
      try simp only [Act.put,lsA,lsB,lsC]
      refine rd1 4 rfl (fun K hK=>?_)
      go_simp
      refine hK.out _ _ (o2 (o2 (onlyA _ _) (onlyA _ _)) (Only.drew _ _)) (fun hHeld=>?_)
      clear hK K
      try simp only [Act.put,lsA,lsB,lsC]
      refine rd1 5 rfl (fun K hK=>?_)
      go_simp
      have HPG:Hid (Pag ((w4b.alloc (.cells #[.int .i64 a,.int .i64 3,.int .i64 v,.int .i64 r,.string h,.slice (some ⟨B,o,none⟩) l.length cp] 37)).alloc (.cells #[.int .i64 a,.int .i64 3,.int .i64 v,.int .i64 r,.string h,.slice (some ⟨B,o,none⟩) l.length cp] 37)).drew (w4b.heap.size+1) (.int .i64 a) (.int .i64 3) (.int .i64 v) (.int .i64 r) (.string h) (.slice (some ⟨B,o,none⟩) l.length cp)∧Pag ((w4b.alloc (.cells #[.int .i64 a,.int .i64 3,.int .i64 v,.int .i64 r,.string h,.slice (some ⟨B,o,none⟩) l.length cp] 37)).alloc (.cells #[.int .i64 a,.int .i64 3,.int .i64 v,.int .i64 r,.string h,.slice (some ⟨B,o,none⟩) l.length cp] 37)).drew (w4b.heap.size) (.int .i64 a) (.int .i64 3) (.int .i64 v) (.int .i64 r) (.string h) (.slice (some ⟨B,o,none⟩) l.length cp)):=⟨(Pag.at (w4b.alloc (.cells #[.int .i64 a,.int .i64 3,.int .i64 v,.int .i64 r,.string h,.slice (some ⟨B,o,none⟩) l.length cp] 37)) _ (by simp) _ _ _ _ _ _).more (Only.drew _ _),(Pag.at w4b _ rfl _ _ _ _ _ _).more (o2 (onlyA _ _) (Only.drew _ _))⟩
      have HOX:Hid (Only (fun _=>False) w4b ((w4b.alloc (.cells #[.int .i64 a,.int .i64 3,.int .i64 v,.int .i64 r,.string h,.slice (some ⟨B,o,none⟩) l.length cp] 37)).alloc (.cells #[.int .i64 a,.int .i64 3,.int .i64 v,.int .i64 r,.string h,.slice (some ⟨B,o,none⟩) l.length cp] 37)).drew∧w4b.heap.size≤w4b.heap.size+1∧w4b.heap.size≤w4b.heap.size∧w4b.heap.size+1≠w4b.heap.size):=⟨o2 (o2 (onlyA _ _) (onlyA _ _)) (Only.drew _ _),by omega,by omega,by omega⟩
      refine hK.out _ _ (HOX.out.1) (fun hHeld=>?_)
      clear hK K
      try simp only [Act.put,lsA,lsB,lsC]
      refine dnN ?_
      go_wp2_with fail
      go_meet
      exact ⟨_,_,rfl,rfl,HPG,HOX⟩
    -- r10}
  case rest=>
    obtain ⟨b,d,rfl,rfl,HPG,HOB⟩:=hcut
    have HX5:=hide (HX4.out.more HOB.out.1)
    have HV5:=hide (HV4.out.more HOB.out.1)
    have HS6:=hide (HS5.out.more HOB.out.1)
    have HZ5:Hid (bb < w4b.heap.size∧B5 < w4b.heap.size):=⟨HV4.out.lt,HS5.out.lt (by simp)⟩
    clear HX4 HV4 HS5
    have hcl:=HCP.out.1
    have hcb:=HCP.out.2
    unfold maxLen at hcb
    have hm0:(0:Int)≤(m:Int):=by omega
    have hm1:(m:Int)≤(l.length:Int):=by have:=HMB.out; omega
    have hm3:(m:Int)≤(cp:Int):=by omega
    have hm2:¬ (l.length:Int) < (m:Int):=by omega
    have hm4:¬ (cp:Int) < (m:Int):=by omega
    go_upto_region 11 with fail
    -- {r11
    refine wp_region_noPanic ?_
    refine wp_region_held_drew (S:=fun W=>Only (fun k=>k=b) wc W) (by kernel_rfl) (Only.drew _ _) (fun hHeld=>?_)
    refine tkP 0 (.int .i64 c) rfl ?_
    refine tkQ 1 (.agg #[.string g.1.key,.int .i64 g.1.page,.int .i64 g.1.slot]) rfl (yieldsIf_load_ev (by rfl) _ rfl rfl (fun W hW=>HV5.out.kept hW (by have:=HOB.out; have:=HZ5.out; omega))) ?_
    refine tkP 3 (.pointer (some ⟨w.heap.size,5,none⟩)) rfl ?_
    refine tkP 5 (.int .i64 (m:Int)) rfl ?_
    refine tkQ 4 (.slice (some ⟨B,o,none⟩) l.length cp) rfl (yieldsIf_load_cell (by rfl) 35 _ rfl _ rfl (fun W hW=>(HX5.out.kept hW (fun k hk=>by have:=HOB.out; have:=HZ5.out; have:=HZ3.out; omega)).pag.c5) (fun W hc=>ld_strings hc)) ?_
    refine tkP 8 (.pointer (some ⟨b,3,none⟩)) rfl ?_
    refine tkP 6 (.slice (some ⟨B,o,none⟩) m cp) rfl ?_
    refine rd1 2 rfl (fun K hK=>?_)
    go_simp
    refine (HLD.out _).mono ?_
    rintro x x1 ⟨rfl,hx1⟩
    obtain ⟨E,hEE⟩:=exq (g.1.enc)
    rw [hEE]
    have HEE:=hide hEE
    have HY1:=hide (o2 (Only.drew _ wc) hx1)
    clear hx1 hEE
    refine hK.out _ _ (HY1.out.mono (fun _ _ h=>h.elim)) (fun hHeld=>?_)
    clear hK K
    try simp only [Act.put,lsA,lsB,lsC]
    refine rd1 7 rfl (fun K hK=>?_)
    go_simp
    refine (HCL1.out _ (o2 HX5.out.only HY1.out)).mono ?_
    rintro x x2 ⟨B7,ao7,cp7,rfl,hS7,ho7,hB7,hF7,hao7,hfr7⟩
    clear hao7 hfr7
    have HF7:=hide hF7
    have HN7:Hid (w.heap.size≤B7):=Nat.le_trans (o2 HX5.out.only HY1.out).size hB7
    have HY2:=hide ho7
    have HS7:Hid (Strs x2 B7 ao7 (l.take m)∧B7≠b):=⟨hS7,by have h9:=hB7; have h8:=(HPG.out.1.more HY1.out).lt; omega⟩
    have HBL:Hid (b < B7∧d < B7):=by have h9:=hB7; have h8:=(HPG.out.1.more HY1.out).lt; have h7:=(HPG.out.2.more HY1.out).lt; unfold Hid; omega
    have HPG7:=hide (And.intro (HPG.out.1.more (o2 HY1.out HY2.out)) (HPG.out.2.more (o2 HY1.out HY2.out)))
    have HX7:=hide (HX5.out.more (o2 HY1.out HY2.out))
    have HV7:=hide (HV5.out.more (o2 HY1.out HY2.out))
    have HS8:=hide (HS6.out.more (o2 HY1.out HY2.out))
    obtain ⟨_,_,_,q3,q4,q5,_,_,_,g3,g4,g5,_⟩:=HPG7.out.1
    clear hS7 ho7 hB7 hF7
    refine hK.out _ _ ((o2 HY1.out HY2.out).mono (fun _ _ h=>h.elim)) (fun hHeld=>?_)
    clear hK K
    try simp only [Act.put,lsA,lsB,lsC]
    refine rd1 9 rfl (fun K hK=>?_)
    go_simp
    refine hK.out _ _ (((o2 HY1.out HY2.out).mono (fun _ _ h=>h.elim)).trans (Only.setCell (S:=fun k=>k=b) _ ⟨b,3,none⟩ _ rfl) (fun _ _ h=>h)) (fun hHeld=>?_)
    clear hK K
    try simp only [Act.put,lsA,lsB,lsC]
    refine tkP 10 (.pointer (some ⟨b,4,none⟩)) rfl ?_
    refine rd1 11 rfl (fun K hK=>?_)
    go_simp
    refine hK.out _ _ ((((o2 HY1.out HY2.out).mono (fun _ _ h=>h.elim)).trans (Only.setCell (S:=fun k=>k=b) _ ⟨b,3,none⟩ _ rfl) (fun _ _ h=>h)).trans (Only.setCell (S:=fun k=>k=b) _ ⟨b,4,none⟩ _ rfl) (fun _ _ h=>h)) (fun hHeld=>?_)
    clear hK K
    try simp only [Act.put,lsA,lsB,lsC]
    refine tkP 12 (.pointer (some ⟨b,5,none⟩)) rfl ?_
    refine rd1 13 rfl (fun K hK=>?_)
    go_simp
    refine hK.out _ _ (((o2 HY1.out HY2.out).mono (fun _ _ h=>h.elim)).trans (Only.left x2 b _ _ _) (fun _ _ h=>h)) (fun hHeld=>?_)
    clear hK K
    try simp only [Act.put,lsA,lsB,lsC]
    refine dnN ?_
    rw [Exit.then]
    -- r11}
    clear hcl hcb hm0 hm1 hm2 hm3 hm4 q3 q4 q5 g3 g4 g5
    have HPL:=hide (HPG7.out.1.left (.int .i64 c) (.string E) (.slice ao7 m cp7))
    have HOL:=hide (Only.left x2 b (.int .i64 c) (.string E) (.slice ao7 m cp7))
    have HPR:=hide (HPG7.out.2.kept HOL.out (by have:=HOB.out.2.2.2; omega))
    have HX8:=hide (HX7.out.kept HOL.out (fun k hk=>by have:=HOB.out; have:=HZ5.out; have:=HZ3.out; omega))
    have HV8:=hide (HV7.out.kept HOL.out (by have:=HOB.out; have:=HZ5.out; omega))
    have HSL:=hide (HS7.out.1.kept HOL.out (fun _=>by have:=HS7.out.2; omega))
    have HSR:=hide (HS8.out.kept HOL.out (fun _=>by have:=HOB.out; have:=HZ5.out; omega))
    obtain ⟨W8,hW8⟩:=exq (((x2.setCell ⟨b,3,none⟩ (.int .i64 c)).setCell ⟨b,4,none⟩ (.string E)).setCell ⟨b,5,none⟩ (.slice ao7 m cp7))
    rw [hW8] at HPL HPR HX8 HV8 HSL HSR ⊢
    clear hW8 HOL HPG7 HX7 HV7 HS7 HS8
    have p5:=HPR.out.c5
    have pf:=HPR.out.f5
    go_upto_region 13 with fail
    clear p5 pf
    have HP9:=hide (HPR.out.set5 (.slice (some ⟨B5,0,none⟩) (l.length - m) cp5))
    have HO9:Hid (Only (fun k=>k=d) W8 (W8.setCell ⟨d,5,none⟩ (.slice (some ⟨B5,0,none⟩) (l.length - m) cp5))):=Only.setCell W8 ⟨d,5,none⟩ _ rfl
    have HPL9:=hide (HPL.out.kept HO9.out (by have:=HOB.out.2.2.2; omega))
    have HX9:=hide (HX8.out.kept HO9.out (fun k hk=>by have:=HOB.out; have:=HZ5.out; have:=HZ3.out; omega))
    have HV9:=hide (HV8.out.kept HO9.out (by have:=HOB.out; have:=HZ5.out; omega))
    have HSL9:=hide (HSL.out.kept HO9.out (fun _=>by have:=HBL.out; omega))
    have HSR9:=hide (HSR.out.kept HO9.out (fun _=>by have:=HOB.out; have:=HZ5.out; omega))
    obtain ⟨W9,hW9⟩:=exq (W8.setCell ⟨d,5,none⟩ (.slice (some ⟨B5,0,none⟩) (l.length - m) cp5))
    rw [hW9] at HP9 HPL9 HX9 HV9 HSL9 HSR9 ⊢
    clear hW9 HO9 HPL HPR HX8 HV8 HSL HSR
    have HFAR:Hid (w.heap.size+1+1+1 < b∧w.heap.size+1+1+1 < d∧w.heap.size+1+1+1 < bb∧w.heap.size+1+1+1 < B5∧w.heap.size+1+1+1 < B7):=by have:=HOB.out; have:=HZ5.out; have:=HZ3.out; have:=HBL.out; have:=HB5.out; unfold Hid; omega
    -- {r13
    refine wp_region_noPanic ?_
    refine wp_region_held_drew (S:=fun W=>Only (fun k=>k=w.heap.size+1∨k=w.heap.size+1+1∨k=w.heap.size+1+1+1) W9 W) (by kernel_rfl) (Only.drew _ _) (fun hHeld=>?_)
    refine tkQ 0 (.agg #[.int .i64 a,.int .i64 3,.int .i64 v,.int .i64 c,.string E,.slice ao7 m cp7]) rfl (yieldsIf_load_page (by rfl) _ rfl _ rfl (fun W hW=>HPL9.out.kept hW (by have:=HFAR.out; omega))) ?_
    refine tkQ 1 (.agg #[.int .i64 a,.int .i64 3,.int .i64 v,.int .i64 r,.string h,.slice (some ⟨B5,0,none⟩) (l.length - m) cp5]) rfl (yieldsIf_load_page (by rfl) _ rfl _ rfl (fun W hW=>HP9.out.kept hW (by have:=HFAR.out; omega))) ?_
    refine tkQ 2 (.agg #[.string g.1.key,.int .i64 g.1.page,.int .i64 g.1.slot]) rfl (yieldsIf_load_ev (by rfl) _ rfl rfl (fun W hW=>HV9.out.kept hW (by have:=HFAR.out; omega))) ?_
    refine rd1 3 rfl (fun K hK=>?_)
    obtain ⟨q0,q1,q2,q3,q4,q5,g0,g1,g2,g3,g4,g5,ql⟩:=HX9.out.r1
    go_simp
    clear q0 q1 q2 q3 q4 q5 g0 g1 g2 g3 g4 g5 ql
    have HD1:Hid (Only (fun k=>k=w.heap.size+1) W9 ((((((W9.setCell ⟨w.heap.size+1,0,none⟩ (.int .i64 a)).setCell ⟨w.heap.size+1,1,none⟩ (.int .i64 3)).setCell ⟨w.heap.size+1,2,none⟩ (.int .i64 v)).setCell ⟨w.heap.size+1,3,none⟩ (.int .i64 c)).setCell ⟨w.heap.size+1,4,none⟩ (.string E)).setCell ⟨w.heap.size+1,5,none⟩ (.slice ao7 m cp7)).drew):=(Only.six W9 (w.heap.size+1) _ _ _ _ _ _).trans (Only.drew (fun _=>False) _) (fun _ _ h=>h.elim)
    have HR1a:=hide ((HX9.out.r1.six (.int .i64 a) (.int .i64 3) (.int .i64 v) (.int .i64 c) (.string E) (.slice ao7 m cp7)).more (Only.drew _ _))
    obtain ⟨Y1,hY1⟩:=exq (((((((W9.setCell ⟨w.heap.size+1,0,none⟩ (.int .i64 a)).setCell ⟨w.heap.size+1,1,none⟩ (.int .i64 3)).setCell ⟨w.heap.size+1,2,none⟩ (.int .i64 v)).setCell ⟨w.heap.size+1,3,none⟩ (.int .i64 c)).setCell ⟨w.heap.size+1,4,none⟩ (.string E)).setCell ⟨w.heap.size+1,5,none⟩ (.slice ao7 m cp7)).drew)
    rw [hY1] at HD1 HR1a ⊢
    clear hY1
    have HR2a:=hide (HX9.out.r2.kept HD1.out (by omega))
    have HR3a:=hide (HX9.out.r3.kept HD1.out (by omega))
    have HT1:Hid (Only (fun k=>k=w.heap.size+1∨k=w.heap.size+1+1∨k=w.heap.size+1+1+1) W9 Y1):=HD1.out.mono (fun _ _ h=>.inl h)
    refine hK.out _ _ (HT1.out) (fun hHeld=>?_)
    clear hK K
    try simp only [Act.put,lsA,lsB,lsC]
    refine rd1 4 rfl (fun K hK=>?_)
    obtain ⟨q0,q1,q2,q3,q4,q5,g0,g1,g2,g3,g4,g5,ql⟩:=HR2a.out
    go_simp
    clear q0 q1 q2 q3 q4 q5 g0 g1 g2 g3 g4 g5 ql
    have HD2:Hid (Only (fun k=>k=w.heap.size+1+1) Y1 ((((((Y1.setCell ⟨w.heap.size+1+1,0,none⟩ (.int .i64 a)).setCell ⟨w.heap.size+1+1,1,none⟩ (.int .i64 3)).setCell ⟨w.heap.size+1+1,2,none⟩ (.int .i64 v)).setCell ⟨w.heap.size+1+1,3,none⟩ (.int .i64 r)).setCell ⟨w.heap.size+1+1,4,none⟩ (.string h)).setCell ⟨w.heap.size+1+1,5,none⟩ (.slice (some ⟨B5,0,none⟩) (l.length - m) cp5))):=Only.six Y1 (w.heap.size+1+1) _ _ _ _ _ _
    have HR2b:=hide (HR2a.out.six (.int .i64 a) (.int .i64 3) (.int .i64 v) (.int .i64 r) (.string h) (.slice (some ⟨B5,0,none⟩) (l.length - m) cp5))
    obtain ⟨Y2,hY2⟩:=exq (((((((Y1.setCell ⟨w.heap.size+1+1,0,none⟩ (.int .i64 a)).setCell ⟨w.heap.size+1+1,1,none⟩ (.int .i64 3)).setCell ⟨w.heap.size+1+1,2,none⟩ (.int .i64 v)).setCell ⟨w.heap.size+1+1,3,none⟩ (.int .i64 r)).setCell ⟨w.heap.size+1+1,4,none⟩ (.string h)).setCell ⟨w.heap.size+1+1,5,none⟩ (.slice (some ⟨B5,0,none⟩) (l.length - m) cp5)))
    rw [hY2] at HD2 HR2b ⊢
    clear hY2
    have HR1b:=hide (HR1a.out.kept HD2.out (by omega))
    have HR3b:=hide (HR3a.out.kept HD2.out (by omega))
    have HT2:Hid (Only (fun k=>k=w.heap.size+1∨k=w.heap.size+1+1∨k=w.heap.size+1+1+1) W9 Y2):=HT1.out.trans HD2.out (fun _ _ h=>.inr (.inl h))
    refine hK.out _ _ (HT2.out) (fun hHeld=>?_)
    clear hK K
    try simp only [Act.put,lsA,lsB,lsC]
    refine rd1 5 rfl (fun K hK=>?_)
    obtain ⟨q0,q1,q2,g0,g1,g2,ql⟩:=HR3b.out
    go_simp
    clear q0 q1 q2 g0 g1 g2 ql
    have HD3:Hid (Only (fun k=>k=w.heap.size+1+1+1) Y2 (((Y2.setCell ⟨w.heap.size+1+1+1,0,none⟩ (.string g.1.key)).setCell ⟨w.heap.size+1+1+1,1,none⟩ (.int .i64 g.1.page)).setCell ⟨w.heap.size+1+1+1,2,none⟩ (.int .i64 g.1.slot))):=Only.three Y2 (w.heap.size+1+1+1) _ _ _
    have HR3:=hide (HR3b.out.all g.1)
    obtain ⟨Y3,hY3⟩:=exq ((((Y2.setCell ⟨w.heap.size+1+1+1,0,none⟩ (.string g.1.key)).setCell ⟨w.heap.size+1+1+1,1,none⟩ (.int .i64 g.1.page)).setCell ⟨w.heap.size+1+1+1,2,none⟩ (.int .i64 g.1.slot)))
    rw [hY3] at HD3 HR3 ⊢
    clear hY3
    have HR1:=hide (HR1b.out.kept HD3.out (by omega))
    have HR2:=hide (HR2b.out.kept HD3.out (by omega))
    have HT3:Hid (Only (fun k=>k=w.heap.size+1∨k=w.heap.size+1+1∨k=w.heap.size+1+1+1) W9 Y3):=HT2.out.trans HD3.out (fun _ _ h=>.inr (.inr h))
    have HSA:=hide (And.intro (HSL9.out.kept HT3.out (fun _=>by have:=HFAR.out; omega)) (HSR9.out.kept HT3.out (fun _=>by have:=HFAR.out; omega)))
    have HOA:Hid (Only (fun _=>False) w Y3):=HX9.out.only.trans HT3.out (fun i hi e=>by omega)
    refine hK.out _ _ (HT3.out) (fun hHeld=>?_)
    clear hK K
    try simp only [Act.put,lsA,lsB,lsC]
    refine tkP 6 (.int .i64 0) rfl ?_
    refine dnN ?_
    -- r13}
    go_wp2_with fail
    refine bodyPost_ret (results_split rfl rfl rfl rfl HR1.out HR2.out HR3.out) rfl ?_
    rw [HMM.out,HG.out]
    refine ⟨B7,ao7,cp7,B5,(some ⟨B5,0,none⟩),cp5,?_,HSA.out.1,?_,HF7.out,HF5.out,HN7.out,HN5.out,HOA.out⟩
    · rw [← HEE.out]
      rfl
    · rw [HSN.out]
      have h:=HSA.out.2
      rw [List.tail_drop] at h
      exact h
end Go.Proofs.YtajjakljheafjaaGreat
