/- Parts. -/
import Derived.Test.YtajjakljheafjaaGreatK17
set_option maxRecDepth 100000
namespace Go.Proofs.YtajjakljheafjaaGreat
open Go.RowKit
def SplN (w w':World) (x:Ending) (a v r:Int) (h:ByteArray) (c:Int) (l:List ByteArray) (m n:Nat) (f:En) (R:List ByteArray):Prop :=
  ∃ B1 ao1 cp1 B2 ao2 cp2,x=.returned (.tuple #[.agg #[.int .i64 a,.int .i64 3,.int .i64 v,.int .i64 c,.string f.enc,.slice ao1 m cp1],.agg #[.int .i64 a,.int .i64 3,.int .i64 v,.int .i64 r,.string h,.slice ao2 n cp2],f.agg,.int .i64 0])∧Strs w' B1 ao1 (l.take m)∧Strs w' B2 ao2 R∧Fit ao1 m cp1∧Fit ao2 n cp2∧w.heap.size≤B1∧w.heap.size≤B2∧Only (fun _=>False) w w'
theorem clone_own (W:World) (B cp n:Nat) (ao:Option Addr) (l:List ByteArray) (hn:l.length=n) (hS:Strs W B ao l) (h0:0 < l.length) :
    Calls Tryz.prog 77 #[.slice ao n cp] W fun x w'=>∃ B5 ao5 cp5,x=.returned (.slice ao5 n cp5)∧Strs w' B5 ao5 l∧Only (fun _=>False) W w'∧W.heap.size≤B5∧Fit ao5 n cp5∧ao5=some ⟨B5,0,none⟩∧(∀ j,w'.frozen? ⟨B5,j,none⟩=false):=by
  subst hn
  refine (clone_any W B cp ao l hS).mono ?_
  rintro x w' ⟨v,rfl,hl,ho⟩
  obtain ⟨B5,ao5,cp5,rfl,hs,hf,hb,hz⟩:=hl.strs hS.len hS.size
  rcases hz with rfl | rfl
  · exact absurd h0 (by rw [hs.none_nil]; simp)
  · refine ⟨B5,_,cp5,rfl,hs,ho,hb h0,hf,rfl,fun j=>?_⟩
    rcases hl.2 with ⟨z,_⟩ | ⟨g,cap,cur,z,hgb,hgh,hnc,hcm,hcs,htk⟩
    · cases z
    · cases z
      exact World.ownsRow.frozenAt hl j
set_option maxHeartbeats 3200000 in
theorem split_leaf (w:World) (a r:Int) (h:ByteArray) (hi:En) (c:Int) (B cp:Nat) (ao:Option Addr) (l:List ByteArray) (es:List En) (hP:Lp w r h hi B ao l es) (hF:Fit ao l.length cp) (hc:okC c=true) (hn:2≤l.length) :
    Calls Tryz.prog 185 #[.agg #[.int .i64 a,.int .i64 3,.int .i64 0,.int .i64 r,.string h,.slice ao l.length cp],.int .i64 c] w fun x w'=>SplN w w' x a 0 r h c l ((l.length+1) / 2) (l.length - (l.length+1) / 2) (es.getD ((l.length+1) / 2 - 1) noE) (l.drop ((l.length+1) / 2)):=by
  obtain ⟨o,rfl,_⟩:=hP.strs.at_ (by omega)
  have HX:=hide (Sv.new w a r h (some ⟨B,o,none⟩) l.length cp)
  have HR:=hide (read_leaf _ a r h hi B cp (some ⟨B,o,none⟩) l es (hP.more HX.out.only))
  have HIC:Hid (∀ W,Calls Tryz.prog 146 #[.int .i64 c] W fun x w'=>x=.returned (.bool true)∧w'=W):=fun W=>by
    have:=isChild_any c W
    rwa [hc] at this
  have HLEN:=hide hP.lf.len
  have HFEW:=hide hP.few
  have HS:=hide hP.strs
  have HOK:=hide hP.lf.ok
  have HF:=hide hF
  have hn2:¬ (l.length:Int) < 2:=by omega
  have HCP:=hide (And.intro hF.le hF.big)
  have HM0:=hide (half_eq l.length hP.few)
  obtain ⟨m,hm⟩:=exq ((l.length+1) / 2)
  have hmb:1≤m∧m < l.length:=by omega
  obtain ⟨P,hPm⟩:∃ P,m=P+1:=⟨m - 1,by omega⟩
  have HPE:Hid (P < es.length):=by have:=HLEN.out; unfold Hid; omega
  obtain ⟨A2,hA2⟩:=exq ((if cp=m then some (⟨B,o,none⟩:Addr) else some ⟨B,o+m,none⟩))
  have HCL2:Hid (∀ W,Only (fun _=>False) w W→Calls Tryz.prog 77 #[.slice A2 (l.length - m) (cp - m)] W fun x w'=>∃ B5 ao5 cp5,x=.returned (.slice ao5 (l.length - m) cp5)∧Strs w' B5 ao5 (l.drop m)∧Only (fun _=>False) W w'∧W.heap.size≤B5∧Fit ao5 (l.length - m) cp5∧ao5=some ⟨B5,0,none⟩∧(∀ j,w'.frozen? ⟨B5,j,none⟩=false)):=fun W ho=>clone_own W B (cp - m) (l.length - m) A2 (l.drop m) (by simp) ((hP.strs.more ho).drop m A2 (fun _=>by rw [← hA2,if_neg (by have:=hF.le; omega)])) (by first | (rw [List.length_drop]; omega) | (rw [List.length_take]; omega))
  have HCL1:Hid (∀ W,Only (fun _=>False) w W→Calls Tryz.prog 77 #[.slice (some ⟨B,o,none⟩) m cp] W fun x w'=>∃ B5 ao5 cp5,x=.returned (.slice ao5 m cp5)∧Strs w' B5 ao5 (l.take m)∧Only (fun _=>False) W w'∧W.heap.size≤B5∧Fit ao5 m cp5∧ao5=some ⟨B5,0,none⟩∧(∀ j,w'.frozen? ⟨B5,j,none⟩=false)):=fun W ho=>clone_own W B cp m (some ⟨B,o,none⟩) (l.take m) (by simp; omega) ((hP.strs.more ho).take m) (by first | (rw [List.length_drop]; omega) | (rw [List.length_take]; omega))
  have HDL:Hid (0 < (l.drop m).length∧0 < (l.take m).length):=by unfold Hid; rw [List.length_drop,List.length_take]; omega
  have HLD:Hid (∀ W,Calls Tryz.prog 88 #[.agg #[.string (es[P]'HPE.out).key,.int .i64 (es[P]'HPE.out).page,.int .i64 (es[P]'HPE.out).slot],.slice none 0 0] W fun x w'=>x=.returned (.string (es[P]'HPE.out).enc)∧Only (fun _=>False) W w'):=fun W=>laid_one _ W (En.few_ok (hP.lf.ok _ (List.getElem_mem _)))
  have HBD:Hid (es.getD (m - 1) noE=es[P]'HPE.out):=by
    unfold Hid
    rw [hPm,Nat.add_sub_cancel,List.getD_eq_getElem?_getD,List.getElem?_eq_getElem HPE.out]
    rfl
  have HMP:Hid ((m:Int) - 1=(P:Int)):=by unfold Hid; omega
  rw [hm] at HM0
  have HMM:=hide hm
  have HA2:=hide hA2
  have HMB:=hide hmb
  clear hP hF hc hm hPm hA2 hmb
  go_enter Tryz.func185,Tryz.ntmps185
  go_upto_region 1 with fail
  obtain ⟨W0,hW0⟩:=exq (svW w a r h (some ⟨B,o,none⟩) l.length cp)
  rw [hW0] at HX HR
  unfold svW at hW0
  rw [hW0]
  clear hW0
  obtain ⟨p0,p1,p2,p3,p4,p5,_⟩:=HX.out.pag
  go_wp2_with fail
  refine HR.out.mono ?_
  rintro x w1 ⟨A,C,rfl,he,ho⟩
  unfold cvv
  have HX1:=hide (HX.out.more ho)
  have HE1:=hide he
  clear he ho p0 p1 p2 p3 p4 p5 HR HX
  go_upto_region 2 with fail
  have HA:=hide (onlyA w1 (.cells #[.slice A es.length C,.slice none 0 0,.string hi.key,.int .i64 hi.page,.int .i64 hi.slot] 164))
  have HC:=hide (Cv.new w1 (.slice A es.length C) (.slice none 0 0) hi)
  obtain ⟨cb,hcb⟩:=exq (w1.heap.size)
  rw [hcb] at HC ⊢
  clear hcb
  obtain ⟨w2,hw2⟩:=exq (w1.alloc (.cells #[.slice A es.length C,.slice none 0 0,.string hi.key,.int .i64 hi.page,.int .i64 hi.slot] 164))
  rw [hw2] at HA HC ⊢
  clear hw2
  have HX2:=hide (HX1.out.more HA.out)
  have HE2:=hide (HE1.out.more HA.out)
  clear HA HX1 HE1
  have p5:=HX2.out.pag.c5
  go_wp2_with fail
  refine (HIC.out _).mono ?_
  rintro x w3 ⟨rfl,h4⟩
  obtain rfl:=h4.symm
  go_upto_region 5 with fail
  rw [HM0.out]
  clear p5 HM0 HIC
  obtain ⟨Be,hels,_⟩:=HE2.out.elsOf
  obtain ⟨oe,rfl,heb⟩:=hels.of P HPE.out
  obtain ⟨f,hf⟩:=exq (es[P]'HPE.out)
  rw [hf] at heb HLD HBD
  clear hels hf
  obtain ⟨e0,e1,e2,_⟩:=heb
  have q0:=HC.out.c0
  have hmp:=HMP.out
  have hwp:IntKind.i64.wrap (P:Int)=(P:Int):=by have:=HPE.out; have:=HLEN.out; have:=HFEW.out; rw [IntKind.wrap_i64]; omega
  have hb1:¬ (es.length:Int)≤(P:Int):=by have:=HPE.out; omega
  have hb2:(P:Int) < (es.length:Int):=by have:=HPE.out; omega
  go_upto_region 6 with fail
  clear e0 e1 e2 q0 hmp hwp hb1 hb2 HMP HE2
  have HA:=hide (onlyA w2 (.cells #[.string f.key,.int .i64 f.page,.int .i64 f.slot] 89))
  have HV3:=hide (Ev.new w2 f)
  have HZ3:Hid (w.heap.size+1+1+1 < w2.heap.size):=HX2.out.r3.lt
  obtain ⟨bb,hbb⟩:=exq (w2.heap.size)
  rw [hbb] at HV3 HZ3 ⊢
  clear hbb
  obtain ⟨w3,hw3⟩:=exq (w2.alloc (.cells #[.string f.key,.int .i64 f.page,.int .i64 f.slot] 89))
  rw [hw3] at HA HV3 ⊢
  clear hw3
  have HX3:=hide (HX2.out.more HA.out)
  clear HA HX2 HC
  have p5:=HX3.out.pag.c5
  have hcl:=HCP.out.1
  have hcb:=HCP.out.2
  unfold maxLen at hcb
  have hA2:=HA2.out
  have hm0:(0:Int)≤(m:Int):=by omega
  have hm1:(m:Int)≤(l.length:Int):=by have:=HMB.out; omega
  have hm2:¬ (l.length:Int) < (m:Int):=by omega
  go_wp2_with fail
  clear p5 hA2
  refine (HCL2.out _ HX3.out.only).mono ?_
  rintro x w4 ⟨B5,ao5,cp5,rfl,hS5,ho5,hB5,hF5,hao5,hfr5⟩
  have HF5:=hide hF5
  have HN5:Hid (w.heap.size≤B5):=Nat.le_trans HX3.out.only.size hB5
  have HX4:=hide (HX3.out.more ho5)
  have HV4:=hide (HV3.out.more ho5)
  have HS5:=hide hS5
  have HB5:Hid (bb < B5):=by
    have:=hB5
    have:=HV3.out.lt
    unfold Hid
    omega
  clear hS5 ho5 hB5 hF5 hao5 hfr5 HX3 HV3 HCL2
  have p2:=HX4.out.pag.c2
  go_upto_region 10 with fail
  clear p2 hcl hcb hm0 hm1 hm2
  go_cut [13,14] (fun x y wx=>∃ b d,x=.pointer (some ⟨b,0,none⟩)∧y=.pointer (some ⟨d,0,none⟩)∧Hid (Pag wx b (.int .i64 a) (.int .i64 3) (.int .i64 0) (.int .i64 r) (.string h) (.slice (some ⟨B,o,none⟩) l.length cp)∧Pag wx d (.int .i64 a) (.int .i64 3) (.int .i64 0) (.int .i64 r) (.string h) (.slice (some ⟨B,o,none⟩) l.length cp))∧Hid (Only (fun _=>False) w4 wx∧w4.heap.size≤b∧w4.heap.size≤d∧b≠d))
  case first=>
    -- {r10
    refine wp_region_noPanic ?_
    refine wp_region_held_drew (S:=fun W=>Only (fun _=>False) w4 W) (by kernel_rfl) (Only.drew _ _) (fun hHeld=>?_)
    refine tkQ 0 (.agg #[.int .i64 a,.int .i64 3,.int .i64 0,.int .i64 r,.string h,.slice (some ⟨B,o,none⟩) l.length cp]) rfl (yieldsIf_load_page (by rfl) _ rfl _ rfl (fun W hW=>HX4.out.pag.more hW)) ?_
    refine tkQ 1 (.agg #[.int .i64 a,.int .i64 3,.int .i64 0,.int .i64 r,.string h,.slice (some ⟨B,o,none⟩) l.length cp]) rfl (yieldsIf_load_page (by rfl) _ rfl _ rfl (fun W hW=>HX4.out.pag.more hW)) ?_
    refine wpAnyH_ready (rs:=[2,3]) (by kernel_rfl) (by simp) ?_
    refine arC rfl (fun K hK=>?_) (arC rfl (fun K hK=>?_) (AllReadyH.nil))
    · go_simp
      refine hK.out _ _ (o2 (onlyA _ _) (Only.drew _ _)) (fun hHeld=>?_)
      clear hK K
      try simp only [Act.put,lsA,lsB,lsC]
      refine rd1 3 rfl (fun K hK=>?_)
      go_simp
      refine hK.out _ _ (o2 (o2 (onlyA _ _) (onlyA _ _)) (Only.drew _ _)) (fun hHeld=>?_)
      clear hK K
      try simp only [Act.put,lsA,lsB,lsC]
      refine rd1 4 rfl (fun K hK=>?_)
      go_simp
      refine hK.out _ _ (o2 (o2 (onlyA _ _) (onlyA _ _)) (Only.drew _ _)) (fun hHeld=>?_)
      clear hK K
      try simp only [Act.put,lsA,lsB,lsC]
      refine rd1 5 rfl (fun K hK=>?_)
      go_simp
      have HPG:Hid (Pag ((w4.alloc (.cells #[.int .i64 a,.int .i64 3,.int .i64 0,.int .i64 r,.string h,.slice (some ⟨B,o,none⟩) l.length cp] 37)).alloc (.cells #[.int .i64 a,.int .i64 3,.int .i64 0,.int .i64 r,.string h,.slice (some ⟨B,o,none⟩) l.length cp] 37)).drew (w4.heap.size) (.int .i64 a) (.int .i64 3) (.int .i64 0) (.int .i64 r) (.string h) (.slice (some ⟨B,o,none⟩) l.length cp)∧Pag ((w4.alloc (.cells #[.int .i64 a,.int .i64 3,.int .i64 0,.int .i64 r,.string h,.slice (some ⟨B,o,none⟩) l.length cp] 37)).alloc (.cells #[.int .i64 a,.int .i64 3,.int .i64 0,.int .i64 r,.string h,.slice (some ⟨B,o,none⟩) l.length cp] 37)).drew (w4.heap.size+1) (.int .i64 a) (.int .i64 3) (.int .i64 0) (.int .i64 r) (.string h) (.slice (some ⟨B,o,none⟩) l.length cp)):=⟨(Pag.at w4 _ rfl _ _ _ _ _ _).more (o2 (onlyA _ _) (Only.drew _ _)),(Pag.at (w4.alloc (.cells #[.int .i64 a,.int .i64 3,.int .i64 0,.int .i64 r,.string h,.slice (some ⟨B,o,none⟩) l.length cp] 37)) _ (by simp) _ _ _ _ _ _).more (Only.drew _ _)⟩
      have HOX:Hid (Only (fun _=>False) w4 ((w4.alloc (.cells #[.int .i64 a,.int .i64 3,.int .i64 0,.int .i64 r,.string h,.slice (some ⟨B,o,none⟩) l.length cp] 37)).alloc (.cells #[.int .i64 a,.int .i64 3,.int .i64 0,.int .i64 r,.string h,.slice (some ⟨B,o,none⟩) l.length cp] 37)).drew∧w4.heap.size≤w4.heap.size∧w4.heap.size≤w4.heap.size+1∧w4.heap.size≠w4.heap.size+1):=⟨o2 (o2 (onlyA _ _) (onlyA _ _)) (Only.drew _ _),by omega,by omega,by omega⟩
      refine hK.out _ _ (HOX.out.1) (fun hHeld=>?_)
      clear hK K
      try simp only [Act.put,lsA,lsB,lsC]
      refine dnN ?_
      go_wp2_with fail
      go_meet
      exact ⟨_,_,rfl,rfl,HPG,HOX⟩
    · go_simp
      refine hK.out _ _ (o2 (onlyA _ _) (Only.drew _ _)) (fun hHeld=>?_)
      clear hK K
      try simp only [Act.put,lsA,lsB,lsC]
      refine rd1 2 rfl (fun K hK=>?_)
      go_simp
      refine hK.out _ _ (o2 (o2 (onlyA _ _) (onlyA _ _)) (Only.drew _ _)) (fun hHeld=>?_)
      clear hK K
      try simp only [Act.put,lsA,lsB,lsC]
      refine rd1 4 rfl (fun K hK=>?_)
      go_simp
      refine hK.out _ _ (o2 (o2 (onlyA _ _) (onlyA _ _)) (Only.drew _ _)) (fun hHeld=>?_)
      clear hK K
      try simp only [Act.put,lsA,lsB,lsC]
      refine rd1 5 rfl (fun K hK=>?_)
      go_simp
      have HPG:Hid (Pag ((w4.alloc (.cells #[.int .i64 a,.int .i64 3,.int .i64 0,.int .i64 r,.string h,.slice (some ⟨B,o,none⟩) l.length cp] 37)).alloc (.cells #[.int .i64 a,.int .i64 3,.int .i64 0,.int .i64 r,.string h,.slice (some ⟨B,o,none⟩) l.length cp] 37)).drew (w4.heap.size+1) (.int .i64 a) (.int .i64 3) (.int .i64 0) (.int .i64 r) (.string h) (.slice (some ⟨B,o,none⟩) l.length cp)∧Pag ((w4.alloc (.cells #[.int .i64 a,.int .i64 3,.int .i64 0,.int .i64 r,.string h,.slice (some ⟨B,o,none⟩) l.length cp] 37)).alloc (.cells #[.int .i64 a,.int .i64 3,.int .i64 0,.int .i64 r,.string h,.slice (some ⟨B,o,none⟩) l.length cp] 37)).drew (w4.heap.size) (.int .i64 a) (.int .i64 3) (.int .i64 0) (.int .i64 r) (.string h) (.slice (some ⟨B,o,none⟩) l.length cp)):=⟨(Pag.at (w4.alloc (.cells #[.int .i64 a,.int .i64 3,.int .i64 0,.int .i64 r,.string h,.slice (some ⟨B,o,none⟩) l.length cp] 37)) _ (by simp) _ _ _ _ _ _).more (Only.drew _ _),(Pag.at w4 _ rfl _ _ _ _ _ _).more (o2 (onlyA _ _) (Only.drew _ _))⟩
      have HOX:Hid (Only (fun _=>False) w4 ((w4.alloc (.cells #[.int .i64 a,.int .i64 3,.int .i64 0,.int .i64 r,.string h,.slice (some ⟨B,o,none⟩) l.length cp] 37)).alloc (.cells #[.int .i64 a,.int .i64 3,.int .i64 0,.int .i64 r,.string h,.slice (some ⟨B,o,none⟩) l.length cp] 37)).drew∧w4.heap.size≤w4.heap.size+1∧w4.heap.size≤w4.heap.size∧w4.heap.size+1≠w4.heap.size):=⟨o2 (o2 (onlyA _ _) (onlyA _ _)) (Only.drew _ _),by omega,by omega,by omega⟩
      refine hK.out _ _ (HOX.out.1) (fun hHeld=>?_)
      clear hK K
      try simp only [Act.put,lsA,lsB,lsC]
      refine dnN ?_
      go_wp2_with fail
      go_meet
      exact ⟨_,_,rfl,rfl,HPG,HOX⟩
    -- r10}
  case rest=>
    obtain ⟨b,d,rfl,rfl,HPG,HOB⟩:=hcut
    have HX5:=hide (HX4.out.more HOB.out.1)
    have HV5:=hide (HV4.out.more HOB.out.1)
    have HS6:=hide (HS5.out.more HOB.out.1)
    have HZ5:Hid (bb < w4.heap.size∧B5 < w4.heap.size):=⟨HV4.out.lt,HS5.out.lt HDL.out.1⟩
    clear HX4 HV4 HS5
    have hcl:=HCP.out.1
    have hcb:=HCP.out.2
    unfold maxLen at hcb
    have hm0:(0:Int)≤(m:Int):=by omega
    have hm1:(m:Int)≤(l.length:Int):=by have:=HMB.out; omega
    have hm3:(m:Int)≤(cp:Int):=by omega
    have hm2:¬ (l.length:Int) < (m:Int):=by omega
    have hm4:¬ (cp:Int) < (m:Int):=by omega
    go_upto_region 11 with fail
    -- {r11
    refine wp_region_noPanic ?_
    refine wp_region_held_drew (S:=fun W=>Only (fun k=>k=b) wc W) (by kernel_rfl) (Only.drew _ _) (fun hHeld=>?_)
    refine tkP 0 (.int .i64 c) rfl ?_
    refine tkQ 1 (.agg #[.string f.key,.int .i64 f.page,.int .i64 f.slot]) rfl (yieldsIf_load_ev (by rfl) _ rfl rfl (fun W hW=>HV5.out.kept hW (by have:=HOB.out; have:=HZ5.out; omega))) ?_
    refine tkP 3 (.pointer (some ⟨w.heap.size,5,none⟩)) rfl ?_
    refine tkP 5 (.int .i64 (m:Int)) rfl ?_
    refine tkQ 4 (.slice (some ⟨B,o,none⟩) l.length cp) rfl (yieldsIf_load_cell (by rfl) 35 _ rfl _ rfl (fun W hW=>(HX5.out.kept hW (fun k hk=>by have:=HOB.out; have:=HZ5.out; have:=HZ3.out; omega)).pag.c5) (fun W hc=>ld_strings hc)) ?_
    refine tkP 8 (.pointer (some ⟨b,3,none⟩)) rfl ?_
    refine tkP 6 (.slice (some ⟨B,o,none⟩) m cp) rfl ?_
    refine rd1 2 rfl (fun K hK=>?_)
    go_simp
    refine (HLD.out _).mono ?_
    rintro x x1 ⟨rfl,hx1⟩
    obtain ⟨E,hEE⟩:=exq (f.enc)
    rw [hEE]
    have HEE:=hide hEE
    have HY1:=hide (o2 (Only.drew _ wc) hx1)
    clear hx1 hEE
    refine hK.out _ _ (HY1.out.mono (fun _ _ h=>h.elim)) (fun hHeld=>?_)
    clear hK K
    try simp only [Act.put,lsA,lsB,lsC]
    refine rd1 7 rfl (fun K hK=>?_)
    go_simp
    refine (HCL1.out _ (o2 HX5.out.only HY1.out)).mono ?_
    rintro x x2 ⟨B7,ao7,cp7,rfl,hS7,ho7,hB7,hF7,hao7,hfr7⟩
    clear hao7 hfr7
    have HF7:=hide hF7
    have HN7:Hid (w.heap.size≤B7):=Nat.le_trans (o2 HX5.out.only HY1.out).size hB7
    have HY2:=hide ho7
    have HS7:Hid (Strs x2 B7 ao7 (l.take m)∧B7≠b):=⟨hS7,by have h9:=hB7; have h8:=(HPG.out.1.more HY1.out).lt; omega⟩
    have HBL:Hid (b < B7∧d < B7):=by have h9:=hB7; have h8:=(HPG.out.1.more HY1.out).lt; have h7:=(HPG.out.2.more HY1.out).lt; unfold Hid; omega
    have HPG7:=hide (And.intro (HPG.out.1.more (o2 HY1.out HY2.out)) (HPG.out.2.more (o2 HY1.out HY2.out)))
    have HX7:=hide (HX5.out.more (o2 HY1.out HY2.out))
    have HV7:=hide (HV5.out.more (o2 HY1.out HY2.out))
    have HS8:=hide (HS6.out.more (o2 HY1.out HY2.out))
    obtain ⟨_,_,_,q3,q4,q5,_,_,_,g3,g4,g5,_⟩:=HPG7.out.1
    clear hS7 ho7 hB7 hF7
    refine hK.out _ _ ((o2 HY1.out HY2.out).mono (fun _ _ h=>h.elim)) (fun hHeld=>?_)
    clear hK K
    try simp only [Act.put,lsA,lsB,lsC]
    refine rd1 9 rfl (fun K hK=>?_)
    go_simp
    refine hK.out _ _ (((o2 HY1.out HY2.out).mono (fun _ _ h=>h.elim)).trans (Only.setCell (S:=fun k=>k=b) _ ⟨b,3,none⟩ _ rfl) (fun _ _ h=>h)) (fun hHeld=>?_)
    clear hK K
    try simp only [Act.put,lsA,lsB,lsC]
    refine tkP 10 (.pointer (some ⟨b,4,none⟩)) rfl ?_
    refine rd1 11 rfl (fun K hK=>?_)
    go_simp
    refine hK.out _ _ ((((o2 HY1.out HY2.out).mono (fun _ _ h=>h.elim)).trans (Only.setCell (S:=fun k=>k=b) _ ⟨b,3,none⟩ _ rfl) (fun _ _ h=>h)).trans (Only.setCell (S:=fun k=>k=b) _ ⟨b,4,none⟩ _ rfl) (fun _ _ h=>h)) (fun hHeld=>?_)
    clear hK K
    try simp only [Act.put,lsA,lsB,lsC]
    refine tkP 12 (.pointer (some ⟨b,5,none⟩)) rfl ?_
    refine rd1 13 rfl (fun K hK=>?_)
    go_simp
    refine hK.out _ _ (((o2 HY1.out HY2.out).mono (fun _ _ h=>h.elim)).trans (Only.left x2 b _ _ _) (fun _ _ h=>h)) (fun hHeld=>?_)
    clear hK K
    try simp only [Act.put,lsA,lsB,lsC]
    refine dnN ?_
    rw [Exit.then]
    -- r11}
    clear hcl hcb hm0 hm1 hm2 hm3 hm4 q3 q4 q5 g3 g4 g5
    have HPL:=hide (HPG7.out.1.left (.int .i64 c) (.string E) (.slice ao7 m cp7))
    have HOL:=hide (Only.left x2 b (.int .i64 c) (.string E) (.slice ao7 m cp7))
    have HPR:=hide (HPG7.out.2.kept HOL.out (by have:=HOB.out.2.2.2; omega))
    have HX8:=hide (HX7.out.kept HOL.out (fun k hk=>by have:=HOB.out; have:=HZ5.out; have:=HZ3.out; omega))
    have HV8:=hide (HV7.out.kept HOL.out (by have:=HOB.out; have:=HZ5.out; omega))
    have HSL:=hide (HS7.out.1.kept HOL.out (fun _=>by have:=HS7.out.2; omega))
    have HSR:=hide (HS8.out.kept HOL.out (fun _=>by have:=HOB.out; have:=HZ5.out; omega))
    obtain ⟨W8,hW8⟩:=exq (((x2.setCell ⟨b,3,none⟩ (.int .i64 c)).setCell ⟨b,4,none⟩ (.string E)).setCell ⟨b,5,none⟩ (.slice ao7 m cp7))
    rw [hW8] at HPL HPR HX8 HV8 HSL HSR ⊢
    clear hW8 HOL HPG7 HX7 HV7 HS7 HS8
    have p5:=HPR.out.c5
    have pf:=HPR.out.f5
    go_upto_region 13 with fail
    clear p5 pf
    have HP9:=hide (HPR.out.set5 (.slice ao5 (l.length - m) cp5))
    have HO9:Hid (Only (fun k=>k=d) W8 (W8.setCell ⟨d,5,none⟩ (.slice ao5 (l.length - m) cp5))):=Only.setCell W8 ⟨d,5,none⟩ _ rfl
    have HPL9:=hide (HPL.out.kept HO9.out (by have:=HOB.out.2.2.2; omega))
    have HX9:=hide (HX8.out.kept HO9.out (fun k hk=>by have:=HOB.out; have:=HZ5.out; have:=HZ3.out; omega))
    have HV9:=hide (HV8.out.kept HO9.out (by have:=HOB.out; have:=HZ5.out; omega))
    have HSL9:=hide (HSL.out.kept HO9.out (fun _=>by have:=HBL.out; omega))
    have HSR9:=hide (HSR.out.kept HO9.out (fun _=>by have:=HOB.out; have:=HZ5.out; omega))
    obtain ⟨W9,hW9⟩:=exq (W8.setCell ⟨d,5,none⟩ (.slice ao5 (l.length - m) cp5))
    rw [hW9] at HP9 HPL9 HX9 HV9 HSL9 HSR9 ⊢
    clear hW9 HO9 HPL HPR HX8 HV8 HSL HSR
    have HFAR:Hid (w.heap.size+1+1+1 < b∧w.heap.size+1+1+1 < d∧w.heap.size+1+1+1 < bb∧w.heap.size+1+1+1 < B5∧w.heap.size+1+1+1 < B7):=by have:=HOB.out; have:=HZ5.out; have:=HZ3.out; have:=HBL.out; have:=HB5.out; unfold Hid; omega
    -- {r13
    refine wp_region_noPanic ?_
    refine wp_region_held_drew (S:=fun W=>Only (fun k=>k=w.heap.size+1∨k=w.heap.size+1+1∨k=w.heap.size+1+1+1) W9 W) (by kernel_rfl) (Only.drew _ _) (fun hHeld=>?_)
    refine tkQ 0 (.agg #[.int .i64 a,.int .i64 3,.int .i64 0,.int .i64 c,.string E,.slice ao7 m cp7]) rfl (yieldsIf_load_page (by rfl) _ rfl _ rfl (fun W hW=>HPL9.out.kept hW (by have:=HFAR.out; omega))) ?_
    refine tkQ 1 (.agg #[.int .i64 a,.int .i64 3,.int .i64 0,.int .i64 r,.string h,.slice ao5 (l.length - m) cp5]) rfl (yieldsIf_load_page (by rfl) _ rfl _ rfl (fun W hW=>HP9.out.kept hW (by have:=HFAR.out; omega))) ?_
    refine tkQ 2 (.agg #[.string f.key,.int .i64 f.page,.int .i64 f.slot]) rfl (yieldsIf_load_ev (by rfl) _ rfl rfl (fun W hW=>HV9.out.kept hW (by have:=HFAR.out; omega))) ?_
    refine rd1 3 rfl (fun K hK=>?_)
    obtain ⟨q0,q1,q2,q3,q4,q5,g0,g1,g2,g3,g4,g5,ql⟩:=HX9.out.r1
    go_simp
    clear q0 q1 q2 q3 q4 q5 g0 g1 g2 g3 g4 g5 ql
    have HD1:Hid (Only (fun k=>k=w.heap.size+1) W9 ((((((W9.setCell ⟨w.heap.size+1,0,none⟩ (.int .i64 a)).setCell ⟨w.heap.size+1,1,none⟩ (.int .i64 3)).setCell ⟨w.heap.size+1,2,none⟩ (.int .i64 0)).setCell ⟨w.heap.size+1,3,none⟩ (.int .i64 c)).setCell ⟨w.heap.size+1,4,none⟩ (.string E)).setCell ⟨w.heap.size+1,5,none⟩ (.slice ao7 m cp7)).drew):=(Only.six W9 (w.heap.size+1) _ _ _ _ _ _).trans (Only.drew (fun _=>False) _) (fun _ _ h=>h.elim)
    have HR1a:=hide ((HX9.out.r1.six (.int .i64 a) (.int .i64 3) (.int .i64 0) (.int .i64 c) (.string E) (.slice ao7 m cp7)).more (Only.drew _ _))
    obtain ⟨Y1,hY1⟩:=exq (((((((W9.setCell ⟨w.heap.size+1,0,none⟩ (.int .i64 a)).setCell ⟨w.heap.size+1,1,none⟩ (.int .i64 3)).setCell ⟨w.heap.size+1,2,none⟩ (.int .i64 0)).setCell ⟨w.heap.size+1,3,none⟩ (.int .i64 c)).setCell ⟨w.heap.size+1,4,none⟩ (.string E)).setCell ⟨w.heap.size+1,5,none⟩ (.slice ao7 m cp7)).drew)
    rw [hY1] at HD1 HR1a ⊢
    clear hY1
    have HR2a:=hide (HX9.out.r2.kept HD1.out (by omega))
    have HR3a:=hide (HX9.out.r3.kept HD1.out (by omega))
    have HT1:Hid (Only (fun k=>k=w.heap.size+1∨k=w.heap.size+1+1∨k=w.heap.size+1+1+1) W9 Y1):=HD1.out.mono (fun _ _ h=>.inl h)
    refine hK.out _ _ (HT1.out) (fun hHeld=>?_)
    clear hK K
    try simp only [Act.put,lsA,lsB,lsC]
    refine rd1 4 rfl (fun K hK=>?_)
    obtain ⟨q0,q1,q2,q3,q4,q5,g0,g1,g2,g3,g4,g5,ql⟩:=HR2a.out
    go_simp
    clear q0 q1 q2 q3 q4 q5 g0 g1 g2 g3 g4 g5 ql
    have HD2:Hid (Only (fun k=>k=w.heap.size+1+1) Y1 ((((((Y1.setCell ⟨w.heap.size+1+1,0,none⟩ (.int .i64 a)).setCell ⟨w.heap.size+1+1,1,none⟩ (.int .i64 3)).setCell ⟨w.heap.size+1+1,2,none⟩ (.int .i64 0)).setCell ⟨w.heap.size+1+1,3,none⟩ (.int .i64 r)).setCell ⟨w.heap.size+1+1,4,none⟩ (.string h)).setCell ⟨w.heap.size+1+1,5,none⟩ (.slice ao5 (l.length - m) cp5))):=Only.six Y1 (w.heap.size+1+1) _ _ _ _ _ _
    have HR2b:=hide (HR2a.out.six (.int .i64 a) (.int .i64 3) (.int .i64 0) (.int .i64 r) (.string h) (.slice ao5 (l.length - m) cp5))
    obtain ⟨Y2,hY2⟩:=exq (((((((Y1.setCell ⟨w.heap.size+1+1,0,none⟩ (.int .i64 a)).setCell ⟨w.heap.size+1+1,1,none⟩ (.int .i64 3)).setCell ⟨w.heap.size+1+1,2,none⟩ (.int .i64 0)).setCell ⟨w.heap.size+1+1,3,none⟩ (.int .i64 r)).setCell ⟨w.heap.size+1+1,4,none⟩ (.string h)).setCell ⟨w.heap.size+1+1,5,none⟩ (.slice ao5 (l.length - m) cp5)))
    rw [hY2] at HD2 HR2b ⊢
    clear hY2
    have HR1b:=hide (HR1a.out.kept HD2.out (by omega))
    have HR3b:=hide (HR3a.out.kept HD2.out (by omega))
    have HT2:Hid (Only (fun k=>k=w.heap.size+1∨k=w.heap.size+1+1∨k=w.heap.size+1+1+1) W9 Y2):=HT1.out.trans HD2.out (fun _ _ h=>.inr (.inl h))
    refine hK.out _ _ (HT2.out) (fun hHeld=>?_)
    clear hK K
    try simp only [Act.put,lsA,lsB,lsC]
    refine rd1 5 rfl (fun K hK=>?_)
    obtain ⟨q0,q1,q2,g0,g1,g2,ql⟩:=HR3b.out
    go_simp
    clear q0 q1 q2 g0 g1 g2 ql
    have HD3:Hid (Only (fun k=>k=w.heap.size+1+1+1) Y2 (((Y2.setCell ⟨w.heap.size+1+1+1,0,none⟩ (.string f.key)).setCell ⟨w.heap.size+1+1+1,1,none⟩ (.int .i64 f.page)).setCell ⟨w.heap.size+1+1+1,2,none⟩ (.int .i64 f.slot))):=Only.three Y2 (w.heap.size+1+1+1) _ _ _
    have HR3:=hide (HR3b.out.all f)
    obtain ⟨Y3,hY3⟩:=exq ((((Y2.setCell ⟨w.heap.size+1+1+1,0,none⟩ (.string f.key)).setCell ⟨w.heap.size+1+1+1,1,none⟩ (.int .i64 f.page)).setCell ⟨w.heap.size+1+1+1,2,none⟩ (.int .i64 f.slot)))
    rw [hY3] at HD3 HR3 ⊢
    clear hY3
    have HR1:=hide (HR1b.out.kept HD3.out (by omega))
    have HR2:=hide (HR2b.out.kept HD3.out (by omega))
    have HT3:Hid (Only (fun k=>k=w.heap.size+1∨k=w.heap.size+1+1∨k=w.heap.size+1+1+1) W9 Y3):=HT2.out.trans HD3.out (fun _ _ h=>.inr (.inr h))
    have HSA:=hide (And.intro (HSL9.out.kept HT3.out (fun _=>by have:=HFAR.out; omega)) (HSR9.out.kept HT3.out (fun _=>by have:=HFAR.out; omega)))
    have HOA:Hid (Only (fun _=>False) w Y3):=HX9.out.only.trans HT3.out (fun i hi e=>by omega)
    refine hK.out _ _ (HT3.out) (fun hHeld=>?_)
    clear hK K
    try simp only [Act.put,lsA,lsB,lsC]
    refine tkP 6 (.int .i64 0) rfl ?_
    refine dnN ?_
    -- r13}
    go_wp2_with fail
    refine bodyPost_ret (results_split rfl rfl rfl rfl HR1.out HR2.out HR3.out) rfl ?_
    rw [HMM.out,HBD.out]
    refine ⟨B7,ao7,cp7,B5,ao5,cp5,?_,HSA.out.1,HSA.out.2,HF7.out,HF5.out,HN7.out,HN5.out,HOA.out⟩
    rw [← HEE.out]
    rfl
end Go.Proofs.YtajjakljheafjaaGreat
