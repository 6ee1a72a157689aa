/- Parts. -/
import Derived.Test.YtajjakljheafjaaGreatK41
set_option maxRecDepth 100000
namespace Go.Proofs.YtajjakljheafjaaGreat
open Go.RowKit
theorem Tryz.sizeEntF:(Tryz.prog.info? 89).map (·.size)=some 3:=by kernel_rfl
def Pn.ne (P:Pn) (R:Hr):En:=⟨P.key,R.page,R.slot⟩
def Pn.nit (P:Pn) (R:Hr):ByteArray:=if (P.ne R).ok then (P.ne R).enc else ⟨#[]⟩
def LayR (P:Pn) (R:Hr) (c:Int) (P':Pn) (cs:List Value) (is:Bool):Prop :=
  if c=0 then P'=P.ent (P.ne R) 0 (P.nit R)∧is=true∧cs=R.cl else is=false∧cs=Hr.none.cl∧P'=if c=121 then P.wsp else P.fl 60
set_option maxHeartbeats 3200000 in
theorem lay_step (w:World) (Z:Nat→Prop) (p:Nat) (P:Pn) (h:Pm w Z p P) (hown:I64 P.own) (V:Vv) (B:Pv) (fa:Option Addr) (fn fc:Nat) (R:Hr) (c:Int)
    (hM:∀ W,Only (fun _=>False) w W→Calls Tryz.prog 58 #[.agg B.ar,.int .i64 P.wp,P.tu.agg] W fun x w'=>x=.returned (.tuple #[.agg R.cells,.int .i64 c])∧Only (fun _=>False) W w') :
    Calls Tryz.prog 36 #[.pointer (some ⟨p,0,none⟩),.agg V.ar,.agg B.ar,.slice fa fn fc] w (SQ w Z p (LayR P R c)):=by
  have H3:=hide (St3.new w V B)
  have HH:=hide (h.more H3.out.only)
  have HM:=hide hM
  have HV:Hid (∀ W,Only (fun _=>False) w W→Calls Tryz.prog 59 #[.pointer (some ⟨p,0,none⟩)] W fun e w'=>e=.returned P.tu.agg∧Only (fun _=>False) W w'):=fun W ho=>version_p W Z p P (h.more ho)
  have HOW:=hide hown
  have HZW:=hide h.zlt
  have HZP:Hid (Z p):=h.zp
  clear h hM hown
  unfold Vv.ar Pv.ar at *
  have HNR:Hid (¬ Z (w.heap.size+1+1)):=fun q=>by have:=HZW.out _ q; omega
  go_enter Tryz.func36,Tryz.ntmps36
  go_upto_region 1 with fail
  obtain ⟨W0,hW0⟩:=exq (((w.alloc (.cells #[.int .i64 V.m,.int .i64 V.nx,.slice V.aA V.nA V.cA,.int .i64 V.ow,.slice V.aR V.nR V.cR,.int .i64 V.l,.int .i64 V.k,.int .i64 V.v,.int .i64 V.r,.string V.h,.slice V.aP V.nP V.cP] 42)).alloc (.cells #[.int .i64 B.a,.int .i64 B.k,.int .i64 B.v,.int .i64 B.r,.string B.h,.slice B.ao B.n B.cp] 37)).alloc (.cells Hr.none.cells 50))
  rw [hW0] at H3 HH ⊢
  clear hW0
  go_cut [10,11] (fun x y wx=>∃ b w1,x=.pointer (some ⟨b,0,none⟩)∧y=.int .i64 c∧w.heap.size+1+1 < b∧w1=wx∧Hid (Cb w1 b R.cl)∧Hid (Only (fun _=>False) W0 w1))
  case first=>
    refine wp_region_noPanic ?_
    refine wp_region_held_drew (S:=fun W=>Only (fun _=>False) W0 W) (by kernel_rfl) (Only.drew _ _) (fun hHeld=>?_)
    refine tkQ 0 (.agg #[.int .i64 B.a,.int .i64 B.k,.int .i64 B.v,.int .i64 B.r,.string B.h,.slice B.ao B.n B.cp]) rfl (yieldsIf_load_page (by rfl) _ rfl _ rfl (fun W hW=>(H3.out.more hW).pb.pag)) ?_
    refine tkP 1 (.pointer (some ⟨p,0,none⟩)) rfl ?_
    refine tkP 6 (.pointer (some ⟨p,0,none⟩)) rfl ?_
    refine tkP 2 (.pointer (some ⟨p,0,none⟩)) rfl ?_
    refine tkP 3 (.pointer (some ⟨p,6,none⟩)) rfl ?_
    refine tkP 4 (.pointer (some ⟨p,9,none⟩)) rfl ?_
    refine tkQ 5 (.int .i64 P.wp) rfl (yieldsIf_load_cell (by rfl) 3 _ rfl _ rfl (fun W hW=>(HH.out.more hW).cb.c 9 _ rfl) (fun W hc=>ld_int hc)) ?_
    refine wpAnyH_ready (rs:=[7,12]) (by kernel_rfl) (by simp) ?_
    refine arC rfl (fun K hK=>?_) (arC rfl (fun K hK=>?_) (AllReadyH.nil))
    · go_simp
      refine (HV.out _ (o2 H3.out.only hHeld)).mono ?_
      rintro x w2 ⟨rfl,ho⟩
      have HO2:=hide (o2 hHeld ho)
      clear ho
      refine hK.out _ _ (HO2.out) (fun hHeld=>?_)
      clear hK K
      try simp only [Act.put,lsA,lsB,lsC]
      refine wpAnyH_ready (rs:=[8,12]) (by kernel_rfl) (by simp) ?_
      refine arC rfl (fun K hK=>?_) (arC rfl (fun K hK=>?_) (AllReadyH.nil))
      · go_simp
        refine (HM.out _ (o2 H3.out.only hHeld)).mono ?_
        rintro x w3 ⟨rfl,ho⟩
        have HO3:=hide (o2 hHeld ho)
        clear ho
        refine hK.out _ _ (HO3.out) (fun hHeld=>?_)
        clear hK K
        try simp only [Act.put,lsA,lsB,lsC]
        refine tkP 9 (.tuple #[.agg R.cells,.int .i64 c]) rfl ?_
        refine tkP 10 (.agg R.cells) rfl ?_
        refine tkP 11 (.int .i64 c) rfl ?_
        refine rd1 12 rfl (fun K hK=>?_)
        go_simp
        have HCB:=hide (Cb.new w3 Hr.none.cl 50)
        have HLB:Hid (W0.heap.size≤w3.heap.size):=hHeld.size
        refine hK.out _ _ (o2 hHeld (onlyA _ _)) (fun hHeld=>?_)
        clear hK K
        try simp only [Act.put,lsA,lsB,lsC]
        refine rd1 13 rfl (fun K hK=>?_)
        rw [if_pos (by rfl)]
        have HTH:Hid ((w3.alloc (.cells Hr.none.cells 50)).there w3.heap.size 0 R.cells.size):=by exact HCB.out.rg.there
        refine wp_store_mid 50 (.tmp 10) (.tmp 25) rfl w3.heap.size 0 R.cells rfl rfl HTH.out Tryz.sizeRecF (by simp [Value.oneCell']) ?_
        have HC4:Hid (Cb ((w3.alloc (.cells Hr.none.cells 50)).setCells w3.heap.size 0 R.cl) w3.heap.size R.cl):=Cb.putF HCB.out R.cl rfl
        have HO4:Hid (Only (fun _=>False) W0 ((w3.alloc (.cells Hr.none.cells 50)).setCells w3.heap.size 0 R.cl)):=hHeld.trans (only_setCells w3.heap.size R.cl 0 (w3.alloc (.cells Hr.none.cells 50))) (fun i hi e=>by have:=HLB.out; omega)
        refine hK.out _ _ (HO4.out) (fun hHeld=>?_)
        clear hK K
        simp only [Act.put]
        refine tkP 14 (.int .i64 c) rfl ?_
        refine dnN ?_
        go_wp2_with fail
        go_meet
        exact ⟨_,_,rfl,rfl,Nat.lt_of_lt_of_le H3.out.rb.lt HLB.out,rfl,HC4,hide hHeld⟩
      · go_simp
        have HCB:=hide (Cb.new w2 Hr.none.cl 50)
        have HLB:Hid (W0.heap.size≤w2.heap.size):=hHeld.size
        refine hK.out _ _ (o2 hHeld (onlyA _ _)) (fun hHeld=>?_)
        clear hK K
        try simp only [Act.put,lsA,lsB,lsC]
        refine rd1 8 rfl (fun K hK=>?_)
        go_simp
        refine (HM.out _ (o2 H3.out.only hHeld)).mono ?_
        rintro x w3 ⟨rfl,ho⟩
        have HO3:=hide (o2 hHeld ho)
        have HCB:=hide (HCB.out.more ho)
        clear ho
        refine hK.out _ _ (HO3.out) (fun hHeld=>?_)
        clear hK K
        try simp only [Act.put,lsA,lsB,lsC]
        refine tkP 9 (.tuple #[.agg R.cells,.int .i64 c]) rfl ?_
        refine tkP 10 (.agg R.cells) rfl ?_
        refine tkP 11 (.int .i64 c) rfl ?_
        refine rd1 13 rfl (fun K hK=>?_)
        rw [if_pos (by rfl)]
        have HTH:Hid (w3.there w2.heap.size 0 R.cells.size):=by exact HCB.out.rg.there
        refine wp_store_mid 50 (.tmp 10) (.tmp 25) rfl w2.heap.size 0 R.cells rfl rfl HTH.out Tryz.sizeRecF (by simp [Value.oneCell']) ?_
        have HC4:Hid (Cb (w3.setCells w2.heap.size 0 R.cl) w2.heap.size R.cl):=Cb.putF HCB.out R.cl rfl
        have HO4:Hid (Only (fun _=>False) W0 (w3.setCells w2.heap.size 0 R.cl)):=hHeld.trans (only_setCells w2.heap.size R.cl 0 w3) (fun i hi e=>by have:=HLB.out; omega)
        refine hK.out _ _ (HO4.out) (fun hHeld=>?_)
        clear hK K
        simp only [Act.put]
        refine tkP 14 (.int .i64 c) rfl ?_
        refine dnN ?_
        go_wp2_with fail
        go_meet
        exact ⟨_,_,rfl,rfl,Nat.lt_of_lt_of_le H3.out.rb.lt HLB.out,rfl,HC4,hide hHeld⟩
    · go_simp
      have HCB:=hide (Cb.new W0.drew Hr.none.cl 50)
      have HLB:Hid (W0.heap.size≤W0.drew.heap.size):=hHeld.size
      refine hK.out _ _ (o2 hHeld (onlyA _ _)) (fun hHeld=>?_)
      clear hK K
      try simp only [Act.put,lsA,lsB,lsC]
      refine rd1 7 rfl (fun K hK=>?_)
      go_simp
      refine (HV.out _ (o2 H3.out.only hHeld)).mono ?_
      rintro x w2 ⟨rfl,ho⟩
      have HO2:=hide (o2 hHeld ho)
      have HCB:=hide (HCB.out.more ho)
      clear ho
      refine hK.out _ _ (HO2.out) (fun hHeld=>?_)
      clear hK K
      try simp only [Act.put,lsA,lsB,lsC]
      refine rd1 8 rfl (fun K hK=>?_)
      go_simp
      refine (HM.out _ (o2 H3.out.only hHeld)).mono ?_
      rintro x w3 ⟨rfl,ho⟩
      have HO3:=hide (o2 hHeld ho)
      have HCB:=hide (HCB.out.more ho)
      clear ho
      refine hK.out _ _ (HO3.out) (fun hHeld=>?_)
      clear hK K
      try simp only [Act.put,lsA,lsB,lsC]
      refine tkP 9 (.tuple #[.agg R.cells,.int .i64 c]) rfl ?_
      refine tkP 10 (.agg R.cells) rfl ?_
      refine tkP 11 (.int .i64 c) rfl ?_
      refine rd1 13 rfl (fun K hK=>?_)
      rw [if_pos (by rfl)]
      have HTH:Hid (w3.there W0.drew.heap.size 0 R.cells.size):=by exact HCB.out.rg.there
      refine wp_store_mid 50 (.tmp 10) (.tmp 25) rfl W0.drew.heap.size 0 R.cells rfl rfl HTH.out Tryz.sizeRecF (by simp [Value.oneCell']) ?_
      have HC4:Hid (Cb (w3.setCells W0.drew.heap.size 0 R.cl) W0.drew.heap.size R.cl):=Cb.putF HCB.out R.cl rfl
      have HO4:Hid (Only (fun _=>False) W0 (w3.setCells W0.drew.heap.size 0 R.cl)):=hHeld.trans (only_setCells W0.drew.heap.size R.cl 0 w3) (fun i hi e=>by have:=HLB.out; omega)
      refine hK.out _ _ (HO4.out) (fun hHeld=>?_)
      clear hK K
      simp only [Act.put]
      refine tkP 14 (.int .i64 c) rfl ?_
      refine dnN ?_
      go_wp2_with fail
      go_meet
      exact ⟨_,_,rfl,rfl,Nat.lt_of_lt_of_le H3.out.rb.lt HLB.out,rfl,HC4,hide hHeld⟩
  case rest=>
    obtain ⟨b,w1,rfl,rfl,hb3,hw1,HC0,HO0⟩:=hcut
    subst hw1
    have HB3:=hide hb3
    clear hb3 HM HV
    have HP1:=hide (HH.out.more HO0.out)
    have HR1:=hide (H3.out.rb.more HO0.out)
    have HC1:=HC0
    have HOA:=hide (o2 H3.out.only HO0.out)
    have HNB:Hid (¬ b=p):=fun e=>by have:=HZW.out p HZP.out; have:=HB3.out; omega
    clear HH H3 HC0 HO0
    by_cases hc:c=0
    · subst hc
      go_upto_region 4 with fail
      go_cut [12] (fun x wx=>∃ d,x=.pointer (some ⟨d,0,none⟩)∧b < d∧Hid (Cb wx d [.string P.key,.int .i64 R.page,.int .i64 R.slot])∧Hid (Only (fun _=>False) w1 wx))
      case first=>
        refine wp_region_noPanic ?_
        refine wp_region_held_drew (S:=fun W=>Only (fun _=>False) w1 W) (by kernel_rfl) (Only.drew _ _) (fun hHeld=>?_)
        refine tkP 0 (.pointer (some ⟨p,0,none⟩)) rfl ?_
        refine tkP 5 (.pointer (some ⟨b,5,none⟩)) rfl ?_
        refine tkP 7 (.pointer (some ⟨b,6,none⟩)) rfl ?_
        refine tkP 1 (.pointer (some ⟨p,0,none⟩)) rfl ?_
        refine tkQ 6 (.int .i64 R.page) rfl (yieldsIf_load_cell (by rfl) 3 _ rfl _ rfl (fun W hW=>(HC1.out.more hW).c 5 _ rfl) (fun W hc=>ld_int hc)) ?_
        refine tkQ 8 (.int .i64 R.slot) rfl (yieldsIf_load_cell (by rfl) 3 _ rfl _ rfl (fun W hW=>(HC1.out.more hW).c 6 _ rfl) (fun W hc=>ld_int hc)) ?_
        refine tkP 2 (.pointer (some ⟨p,0,none⟩)) rfl ?_
        refine tkP 3 (.pointer (some ⟨p,1,none⟩)) rfl ?_
        refine tkQ 4 (.string P.key) rfl (yieldsIf_load_cell (by rfl) 9 _ rfl _ rfl (fun W hW=>(HP1.out.more hW).cb.c 1 _ rfl) (fun W hc=>ld_string hc)) ?_
        refine tkP 9 (.agg #[.string P.key,.int .i64 R.page,.int .i64 R.slot]) rfl ?_
        refine rd1 10 rfl (fun K hK=>?_)
        go_simp
        have HEB:=hide (Cb.new w1.drew [.string ⟨#[]⟩,.int .i64 0,.int .i64 0] 89)
        refine hK.out _ _ (o2 hHeld (onlyA _ _)) (fun hHeld=>?_)
        clear hK K
        try simp only [Act.put,lsA,lsB,lsC]
        refine rd1 11 rfl (fun K hK=>?_)
        rw [if_pos (by rfl)]
        have HTH:Hid ((w1.drew.alloc (.cells #[.string ⟨#[]⟩,.int .i64 0,.int .i64 0] 89)).there w1.heap.size 0 3):=by exact HEB.out.rg.there
        refine wp_store_mid 89 (.tmp 12) (.tmp 39) rfl w1.heap.size 0 #[.string P.key,.int .i64 R.page,.int .i64 R.slot] rfl rfl HTH.out Tryz.sizeEntF (by simp [Value.oneCell']) ?_
        have HC4:Hid (Cb ((w1.drew.alloc (.cells #[.string ⟨#[]⟩,.int .i64 0,.int .i64 0] 89)).setCells w1.heap.size 0 [.string P.key,.int .i64 R.page,.int .i64 R.slot]) w1.heap.size [.string P.key,.int .i64 R.page,.int .i64 R.slot]):=Cb.putF HEB.out [.string P.key,.int .i64 R.page,.int .i64 R.slot] rfl
        have HO4:Hid (Only (fun _=>False) w1 ((w1.drew.alloc (.cells #[.string ⟨#[]⟩,.int .i64 0,.int .i64 0] 89)).setCells w1.heap.size 0 [.string P.key,.int .i64 R.page,.int .i64 R.slot])):=hHeld.trans (only_setCells w1.heap.size [.string P.key,.int .i64 R.page,.int .i64 R.slot] 0 (w1.drew.alloc (.cells #[.string ⟨#[]⟩,.int .i64 0,.int .i64 0] 89))) (fun i hi e=>by omega)
        refine hK.out _ _ (HO4.out) (fun hHeld=>?_)
        clear hK K
        simp only [Act.put]
        refine dnN ?_
        go_wp2_with fail
        go_meet
        exact ⟨_,rfl,HC1.out.lt,HC4,hide hHeld⟩
      case rest=>
        obtain ⟨d,rfl,hbd,HD1,HO1⟩:=hcut
        have HBD:=hide hbd
        clear hbd
        have HP2:=hide (HP1.out.more HO1.out)
        have HR2:=hide (HR1.out.more HO1.out)
        have HC2:=hide (HC1.out.more HO1.out)
        have HO2:=hide (o2 HOA.out HO1.out)
        clear HP1 HR1 HC1 HOA
        have d0:=HD1.out.c 0 _ rfl
        have d1:=HD1.out.c 1 _ rfl
        have d2:=HD1.out.c 2 _ rfl
        obtain ⟨IT,hIT⟩:=exq (P.nit R)
        obtain ⟨EC,hEC⟩:∃ x:Int,(if (P.ne R).ok then 0 else 140)=x:=⟨_,rfl⟩
        have HE:Hid (∀ W,Calls Tryz.prog 60 #[.agg #[.string P.key,.int .i64 R.page,.int .i64 R.slot]] W fun x w'=>x=.returned (.tuple #[.string IT,.int .i64 EC])∧Only (fun _=>False) W w'):=fun W=>by
          rw [← hIT,← hEC]
          exact encode_any (P.ne R) W
        clear hEC
        have HIT:=hide hIT
        clear hIT
        go_wp2_with fail
        refine (HE.out _).mono ?_
        rintro x w3 ⟨rfl,ho⟩
        have HP3:=hide (HP2.out.more ho)
        have HR3:=hide (HR2.out.more ho)
        have HC3:=hide (HC2.out.more ho)
        have HD3:=hide (HD1.out.more ho)
        have HO3:=hide (o2 HO2.out ho)
        clear ho HP2 HR2 HC2 HD1 HO2 HE d0 d1 d2
        have d0:=HD3.out.c 0 _ rfl
        have d1:=HD3.out.c 1 _ rfl
        have d2:=HD3.out.c 2 _ rfl
        go_wp2_with fail
        have HEN:Hid (Calls Tryz.prog 61 #[.pointer (some ⟨p,0,none⟩),.agg #[.string P.key,.int .i64 R.page,.int .i64 R.slot],.int .i64 0,.string IT] w3 fun x w'=>x=.returned (.tuple #[])∧Pm w' Z p (P.ent (P.ne R) 0 IT)∧Only (fun k=>k=p) w3 w'):=enter_p w3 Z p P HP3.out (P.ne R) 0 IT
        refine HEN.out.mono ?_
        rintro x w5 ⟨rfl,hp,ho⟩
        have HP5:=hide hp
        have HO5:=hide ho
        have HR5:=hide (HR3.out.kept ho (fun q=>HNR.out (by rw [q]; exact HZP.out)))
        have HC5:=hide (HC3.out.kept ho HNB.out)
        clear hp ho HEN d0 d1 d2 HP3 HR3 HC3 HD3
        have r0:=HC5.out.c 0 _ rfl
        have r1:=HC5.out.c 1 _ rfl
        have r2:=HC5.out.c 2 _ rfl
        have r3:=HC5.out.c 3 _ rfl
        have r4:=HC5.out.c 4 _ rfl
        have r5:=HC5.out.c 5 _ rfl
        have r6:=HC5.out.c 6 _ rfl
        have r7:=HC5.out.c 7 _ rfl
        have r8:=HC5.out.c 8 _ rfl
        have r9:=HC5.out.c 9 _ rfl
        have r10:=HC5.out.c 10 _ rfl
        have r11:=HC5.out.c 11 _ rfl
        have r12:=HC5.out.c 12 _ rfl
        have r13:=HC5.out.c 13 _ rfl
        have r14:=HC5.out.c 14 _ rfl
        have r15:=HC5.out.c 15 _ rfl
        go_wp2_with (refine wpList_put_cb rfl 50 (.tmp 8) (.tmp 49) (by rfl) (w.heap.size+1+1) (by rfl) Hr.none.cl R.cl (by rfl) Tryz.sizeRecF (by rfl) (by rfl) HR5.out ?_; intro W9 HW9; go_frame)
        refine bodyPost_ret (results_cb16 rfl rfl HW9.out.1 rfl) rfl ?_
        refine ⟨Z,_,R.cl,true,⟨rfl,rfl,rfl⟩,fun _ _ q=>q,HP5.out.late HW9.out.2 HNR.out,?_,?_⟩
        · exact (((HO3.out.mono (fun _ _ e=>e.elim)).trans (HO5.out.mono (fun k _ e=>by rw [e]; exact HZP.out)) (fun _ _ e=>e)).trans (HW9.out.2) (fun i hi e=>by omega))
        · unfold LayR
          rw [if_pos rfl,HIT.out]
          exact ⟨rfl,rfl,rfl⟩
    · have hb:(c == 0)=false:=by simpa using hc
      have HNC:=hide hc
      clear hc
      by_cases hr:c=121
      · have hb2:(c == 121)=true:=by simp [hr]
        have HNR2:=hide hr
        clear hr
        have HS:=hide (wantSpace_any _ Z p P HP1.out HOW.out)
        go_wp2_with fail
        refine HS.out.mono ?_
        rintro x w5 ⟨rfl,hp,ho⟩
        have HP5:=hide hp
        have HO5:=hide ho
        have HR5:=hide (HR1.out.kept ho (fun q=>HNR.out (by rw [q]; exact HZP.out)))
        clear hp ho HS HP1 HR1 HC1
        go_wp2_with fail
        refine (nothing_any w5).mono ?_
        rintro x w6 ⟨rfl,ho⟩
        have HP6:=hide (HP5.out.more ho)
        have HR6:=hide (HR5.out.more ho)
        have HO6:=hide (HO5.out.trans (ho.mono (fun _ _ e=>e.elim)) (fun _ _ e=>e))
        clear ho HP5 HR5 HO5
        unfold noRec
        go_wp2_with (refine wpList_put_cb rfl 50 (.tmp 8) (.tmp 55) (by rfl) (w.heap.size+1+1) (by rfl) Hr.none.cl Hr.none.cl (by rfl) Tryz.sizeRecF (by rfl) (by rfl) HR6.out ?_; intro W9 HW9; go_frame)
        refine bodyPost_ret (results_cb16 rfl rfl HW9.out.1 rfl) rfl ?_
        refine ⟨Z,_,Hr.none.cl,false,⟨rfl,rfl,rfl⟩,fun _ _ q=>q,HP6.out.late HW9.out.2 HNR.out,?_,?_⟩
        · exact (((HOA.out.mono (fun _ _ e=>e.elim)).trans (HO6.out.mono (fun k _ e=>by rw [e]; exact HZP.out)) (fun _ _ e=>e)).trans (HW9.out.2) (fun i hi e=>by omega))
        · unfold LayR
          rw [if_neg HNC.out]
          exact ⟨rfl,rfl,by rw [if_pos HNR2.out]⟩
      · have hb2:(c == 121)=false:=by simpa using hr
        have HNR2:=hide hr
        clear hr
        have HS:=hide (failS_any _ Z p P HP1.out 60)
        go_wp2_with fail
        refine HS.out.mono ?_
        rintro x w5 ⟨rfl,hp,ho⟩
        have HP5:=hide hp
        have HO5:=hide ho
        have HR5:=hide (HR1.out.kept ho (fun q=>HNR.out (by rw [q]; exact HZP.out)))
        clear hp ho HS HP1 HR1 HC1
        unfold noRec
        go_wp2_with (refine wpList_put_cb rfl 50 (.tmp 8) (.tmp 59) (by rfl) (w.heap.size+1+1) (by rfl) Hr.none.cl Hr.none.cl (by rfl) Tryz.sizeRecF (by rfl) (by rfl) HR5.out ?_; intro W9 HW9; go_frame)
        refine bodyPost_ret (results_cb16 rfl rfl HW9.out.1 rfl) rfl ?_
        refine ⟨Z,_,Hr.none.cl,false,⟨rfl,rfl,rfl⟩,fun _ _ q=>q,HP5.out.late HW9.out.2 HNR.out,?_,?_⟩
        · exact (((HOA.out.mono (fun _ _ e=>e.elim)).trans (HO5.out.mono (fun k _ e=>by rw [e]; exact HZP.out)) (fun _ _ e=>e)).trans (HW9.out.2) (fun i hi e=>by omega))
        · unfold LayR
          rw [if_neg HNC.out]
          exact ⟨rfl,rfl,by rw [if_neg HNR2.out]⟩
end Go.Proofs.YtajjakljheafjaaGreat
