/- Parts. -/
import Derived.Test.YtajjakljheafjaaGreatK36
set_option maxRecDepth 100000
namespace Go.Proofs.YtajjakljheafjaaGreat
open Go.RowKit
def Pn.sn (P:Pn):Pn:={ P with seen:=P.seen+1 }
theorem Pm.te {w:World} {Z:Nat→Prop} {p:Nat} {P:Pn} (h:Pm w Z p P):Eb w p 11 P.te:=⟨h.cb.c 11 _ rfl,h.cb.c 12 _ rfl,h.cb.c 13 _ rfl,h.cb.lt⟩
def DnR (P:Pn) (nx:Int) (th:Bool) (er:Int) (R:Pn→List Value→Bool→Prop) (P':Pn) (cs:List Value) (is:Bool):Prop :=
  (er=0∧th=true∧R P' cs is)∨(¬ (er=0∧th=true)∧is=false∧cs=Hr.none.cl∧P'=if er=0∧P.seen+1 < 4096 then P.sn.see nx 92 else P.sn.fl 60)
set_option maxHeartbeats 1600000 in
theorem downL_any (w:World) (Z:Nat→Prop) (p:Nat) (P:Pn) (h:Pm w Z p P) (V:Vv) (B:Pv) (fa:Option Addr) (fn fc:Nat) (hth:P.th=some 51) (hs:0≤P.seen∧P.seen≤4096) (nx:Int) (th:Bool) (er:Int) (R:Pn→List Value→Bool→Prop)
    (hW:∀ W,Only (fun k=>k=p) w W→Calls Tryz.prog 28 #[.agg B.ar,.int .i64 P.lv,.agg #[.string P.te.key,.int .i64 P.te.page,.int .i64 P.te.slot]] W fun x w'=>x=.returned (.tuple #[.int .i64 nx,.bool th,.int .i64 er])∧Only (fun _=>False) W w')
    (hT:er=0→th=true→∀ W,Pm W Z p P.sn→Only (fun k=>k=p) w W→Calls Tryz.prog 51 #[.pointer (some ⟨p,0,none⟩),.agg V.ar,.agg B.ar,.slice fa fn fc] W (SQ W Z p R)) :
    Calls Tryz.prog 92 #[.pointer (some ⟨p,0,none⟩),.agg V.ar,.agg B.ar,.slice fa fn fc] w (SQ w Z p (DnR P nx th er R)):=by
  have H3:=hide (St3.new w V B)
  have HH:=hide (h.more H3.out.only)
  have HW:=hide hW
  have HT0:=hide hT
  have HZW:=hide h.zlt
  have HZP:Hid (Z p):=h.zp
  have HTE:=hide hth
  have hs1:IntKind.i64.wrap (P.seen+1)=P.seen+1:=by rw [IntKind.wrap_i64]; omega
  have HS:=hide hs
  clear h hW hT hth
  unfold Vv.ar Pv.ar at *
  have c15:=HH.out.cb.c 15 _ rfl
  have f15:=HH.out.cb.f 15
  go_enter Tryz.func92,Tryz.ntmps92
  go_upto_region 1 with fail
  obtain ⟨W0,hW0⟩:=exq (((w.alloc (.cells #[.int .i64 V.m,.int .i64 V.nx,.slice V.aA V.nA V.cA,.int .i64 V.ow,.slice V.aR V.nR V.cR,.int .i64 V.l,.int .i64 V.k,.int .i64 V.v,.int .i64 V.r,.string V.h,.slice V.aP V.nP V.cP] 42)).alloc (.cells #[.int .i64 B.a,.int .i64 B.k,.int .i64 B.v,.int .i64 B.r,.string B.h,.slice B.ao B.n B.cp] 37)).alloc (.cells Hr.none.cells 50))
  rw [hW0] at H3 HH c15 f15 ⊢
  clear hW0
  clear hs
  go_upto_region 2 with fail
  obtain ⟨W1,hW1⟩:=exq (W0.setCell ⟨p,15,none⟩ (.int .i64 (P.seen+1)))
  have HX:Hid (Only (fun k=>k=p) W0 W1):=by rw [← hW1]; exact Only.put _ _ _ _
  have HP1:Hid (Pm W1 Z p P.sn):=by
    refine HH.out.mod HX.out ?_ ⟨rfl,rfl,rfl⟩ ⟨rfl,rfl⟩
    rw [← hW1]
    exact HH.out.cb.set 15 _
  rw [hW1]
  clear hW1 c15 f15
  have HNQ:Hid (p < w.heap.size):=HZW.out p HZP.out
  have H31:=hide (St3.kept H3.out HX.out (fun k q=>.inl (by rw [q]; exact HNQ.out)))
  have HO1:=hide ((H3.out.only.mono (fun _ _ e=>e.elim):Only (fun k=>k=p) w W0).trans HX.out (fun _ _ e=>e))
  have HNV:Hid (¬ Z w.heap.size):=fun q=>by have:=HZW.out _ q; omega
  have HNP:Hid (¬ Z (w.heap.size+1)):=fun q=>by have:=HZW.out _ q; omega
  have HNR:Hid (¬ Z (w.heap.size+1+1)):=fun q=>by have:=HZW.out _ q; omega
  clear H3 HH HX
  refine wp_region_noPanic ?_
  refine wp_region_held_drew (S:=fun W=>Only (fun _=>False) W1 W) (by kernel_rfl) (Only.drew _ _) (fun hHeld=>?_)
  refine tkQ 0 (.agg #[.int .i64 B.a,.int .i64 B.k,.int .i64 B.v,.int .i64 B.r,.string B.h,.slice B.ao B.n B.cp]) rfl (yieldsIf_load_page (by rfl) _ rfl _ rfl (fun W hW=>(H31.out.2.1.more hW).pag)) ?_
  refine tkP 1 (.pointer (some ⟨p,0,none⟩)) rfl ?_
  refine tkP 6 (.pointer (some ⟨p,0,none⟩)) rfl ?_
  refine tkP 2 (.pointer (some ⟨p,0,none⟩)) rfl ?_
  refine tkP 7 (.pointer (some ⟨p,0,none⟩)) rfl ?_
  refine tkP 3 (.pointer (some ⟨p,11,none⟩)) rfl ?_
  refine tkP 8 (.pointer (some ⟨p,11,none⟩)) rfl ?_
  refine tkP 4 (.pointer (some ⟨p,14,none⟩)) rfl ?_
  refine tkP 9 (.pointer (some ⟨p,11,none⟩)) rfl ?_
  refine tkQ 5 (.int .i64 P.lv) rfl (yieldsIf_load_cell (by rfl) 3 _ rfl _ rfl (fun W hW=>(HP1.out.more hW).cb.c 14 _ rfl) (fun W hc=>ld_int hc)) ?_
  refine tkQ 10 (.agg #[.string P.te.key,.int .i64 P.te.page,.int .i64 P.te.slot]) rfl (yieldsIf_load_eb (e:=P.te) (by rfl) _ rfl rfl (fun W hW=>(HP1.out.more hW).te)) ?_
  refine rd1 11 rfl (fun K hK=>?_)
  go_simp
  refine (HW.out _ (HO1.out.trans hHeld (fun _ _ e=>e.elim))).mono ?_
  rintro x w2 ⟨rfl,ho⟩
  have HO2:=hide (o2 hHeld ho)
  clear ho
  refine hK.out _ _ (HO2.out) (fun hHeld=>?_)
  clear hK K
  try simp only [Act.put,lsA,lsB,lsC]
  refine tkP 12 (.tuple #[.int .i64 nx,.bool th,.int .i64 er]) rfl ?_
  refine tkP 13 (.int .i64 nx) rfl ?_
  refine tkP 14 (.bool th) rfl ?_
  refine tkP 15 (.int .i64 er) rfl ?_
  refine tkP 16 (.int .i64 nx) rfl ?_
  refine tkP 17 (.bool th) rfl ?_
  refine tkP 18 (.int .i64 er) rfl ?_
  refine dnN ?_
  have HP2:=hide (HP1.out.more HO2.out)
  have H32:=hide (And.intro (H31.out.1.more HO2.out) (And.intro (H31.out.2.1.more HO2.out) (H31.out.2.2.more HO2.out)))
  have HO3:=hide (HO1.out.trans HO2.out (fun _ _ e=>e.elim))
  clear HP1 H31 HO1 HO2 HW
  have HSZ2:Hid (w.heap.size+1+1 < w2.heap.size):=H32.out.2.2.lt
  by_cases he:er=0
  · have hb:(er != 0)=false:=by simp [he]
    have HE:=hide he
    clear he
    cases th
    · clear HT0
      have c15:=HP2.out.cb.c 15 _ rfl
      rw [show P.sn.seen=P.seen+1 from rfl] at c15
      by_cases hq:P.seen+1 < 4096
      · have hb3:decide (4096≤P.seen+1)=false:=decide_eq_false (by omega)
        have HQ:=hide hq
        clear hq
        have hmf:∀ (fn:Fn) (first cap:Array Value) (w:World),(Instr.makeFunc fn first cap).run Tryz.prog w=.ok (.func fn first cap) w:=fun _ _ _ _=>rfl
        have HSE:=hide (see_any w2 Z p P.sn HP2.out nx 92)
        go_wp2_with fail
        refine HSE.out.mono ?_
        rintro x w4 ⟨rfl,hp,ho⟩
        have HP4:=hide hp
        have HO4:=hide ho
        clear hp ho HSE c15
        go_wp2_with fail
        refine (nothing_any _).mono ?_
        rintro x w5 ⟨rfl,ho⟩
        have HP5:=hide (HP4.out.more ho)
        have HO5:=hide (Op.fst HO4.out ho)
        have HR5:=hide (H32.out.2.2.kept HO5.out (fun q=>HNR.out (by rw [q]; exact HZP.out)))
        clear ho HP4 HO4
        unfold noRec
        go_wp2_with (refine wpList_put_cb rfl 50 (.tmp 8) (.tmp 75) rfl (w.heap.size+1+1) rfl Hr.none.cl Hr.none.cl rfl Tryz.sizeRecF rfl rfl HR5.out ?_; intro W9 HW9; go_frame)
        refine bodyPost_ret (results_cb16 rfl rfl HW9.out.1 rfl) rfl ?_
        refine ⟨Z,_,Hr.none.cl,false,⟨rfl,rfl,rfl⟩,fun _ _ q=>q,HP5.out.late HW9.out.2 HNR.out,?_,.inr ⟨fun q=>absurd q.2 (by decide),rfl,rfl,by rw [if_pos ⟨HE.out,HQ.out⟩]⟩⟩
        exact (((HO3.out.trans HO5.out (fun _ _ e=>e)).mono (fun k _ e=>by rw [e]; exact HZP.out)).trans (HW9.out.2) (fun i hi e=>by have:=HSZ2.out; omega))
      · have hb3:decide (4096≤P.seen+1)=true:=decide_eq_true (by omega)
        have HQ:=hide hq
        clear hq
        have HF:=hide (failS_any w2 Z p P.sn HP2.out 60)
        go_wp2_with fail
        refine HF.out.mono ?_
        rintro x w4 ⟨rfl,hp,ho⟩
        have HP4:=hide hp
        have HO4:=hide ho
        have HR5:=hide (H32.out.2.2.kept HO4.out (fun q=>HNR.out (by rw [q]; exact HZP.out)))
        clear hp ho HF c15
        unfold noRec
        go_wp2_with (refine wpList_put_cb rfl 50 (.tmp 8) (.tmp 67) rfl (w.heap.size+1+1) rfl Hr.none.cl Hr.none.cl rfl Tryz.sizeRecF rfl rfl HR5.out ?_; intro W9 HW9; go_frame)
        refine bodyPost_ret (results_cb16 rfl rfl HW9.out.1 rfl) rfl ?_
        refine ⟨Z,_,Hr.none.cl,false,⟨rfl,rfl,rfl⟩,fun _ _ q=>q,HP4.out.late HW9.out.2 HNR.out,?_,.inr ⟨fun q=>absurd q.2 (by decide),rfl,rfl,by rw [if_neg (show ¬ (er=0∧P.seen+1 < 4096) from fun q=>by have:=HQ.out; omega)]⟩⟩
        exact (((HO3.out.trans HO4.out (fun _ _ e=>e)).mono (fun k _ e=>by rw [e]; exact HZP.out)).trans (HW9.out.2) (fun i hi e=>by have:=HSZ2.out; omega))
    · have HT:=hide (HT0.out HE.out rfl)
      clear HT0
      have c16:=HP2.out.cb.c 16 _ rfl
      rw [show fv p P.sn.th=.func (.func 51) #[.pointer (some ⟨p,0,none⟩)] #[] from by show fv p P.th=_; rw [HTE.out]; rfl] at c16
      go_upto_region 6 with fail
      refine wp_region_noPanic ?_
      refine wp_region_held_drew (S:=fun W=>Cb W w.heap.size V.ar.toList∧Cb W (w.heap.size+1) B.ar.toList) (by kernel_rfl) (⟨H32.out.1.more (Only.drew _ _),H32.out.2.1.more (Only.drew _ _)⟩) (fun hHeld=>?_)
      refine tkP 0 (.pointer (some ⟨p,0,none⟩)) rfl ?_
      refine tkQ 5 (.agg V.ar) rfl (yieldsIf_load_view (by rfl) _ rfl rfl (fun W hW=>hW.1)) ?_
      refine tkQ 6 (.agg #[.int .i64 B.a,.int .i64 B.k,.int .i64 B.v,.int .i64 B.r,.string B.h,.slice B.ao B.n B.cp]) rfl (yieldsIf_load_page (by rfl) _ rfl _ rfl (fun W hW=>hW.2.pag)) ?_
      refine tkP 7 (.slice fa fn fc) rfl ?_
      refine tkP 1 (.pointer (some ⟨p,0,none⟩)) rfl ?_
      refine tkP 2 (.pointer (some ⟨p,11,none⟩)) rfl ?_
      refine tkP 3 (.pointer (some ⟨p,16,none⟩)) rfl ?_
      refine rd1 4 rfl (fun K hK=>?_)
      go_simp
      refine hK.out _ _ (hHeld) (fun hHeld=>?_)
      clear hK K
      refine rd1 8 rfl (fun K hK=>?_)
      go_simp
      refine (HT.out _ (HP2.out.more (Only.drew _ _)) (HO3.out.trans (Only.drew (fun _=>False) w2) (fun _ _ e=>e.elim))).mono ?_
      rintro x w3 ⟨Z5,P5,cs,is,⟨rfl,hcs,hone⟩,hz5,hp5,ho5,hR⟩
      have HS3:=hide (And.intro (H32.out.1.kept ((Only.drew Z w2).trans ho5 (fun _ _ e=>e):Only Z w2 w3) HNV.out) (H32.out.2.1.kept ((Only.drew Z w2).trans ho5 (fun _ _ e=>e):Only Z w2 w3) HNP.out))
      have HRB3:=hide (H32.out.2.2.kept ((Only.drew Z w2).trans ho5 (fun _ _ e=>e):Only Z w2 w3) HNR.out)
      have HTH:Hid (w3.there (w.heap.size+1+1) 0 cs.toArray.size):=by have:=HRB3.out.rg.there; rw [show Hr.none.cl.length=cs.length from hcs.symm] at this; unfold Hid; simpa using this
      have HSZ:Hid ((Tryz.prog.info? 50).map (·.size)=some cs.toArray.size):=by unfold Hid; rw [Tryz.sizeRecF,List.size_toArray,hcs]
      have HON:Hid (cs.toArray.all Value.oneCell'=true):=by unfold Hid; simpa using hone
      have HC4:Hid (Cb (w3.setCells (w.heap.size+1+1) 0 cs) (w.heap.size+1+1) cs):=by have q:=Cb.sets (c1:=[]) (c2:=Hr.none.cl) (c3:=[]) (by simpa using HRB3.out) cs hcs; unfold Hid; simpa using q
      have HS4:=hide (And.intro (HS3.out.1.kept (only_setCells (w.heap.size+1+1) cs 0 w3) (by omega)) (HS3.out.2.kept (only_setCells (w.heap.size+1+1) cs 0 w3) (by omega)))
      have HP5:=hide hp5
      have HO5:=hide ((HO3.out.mono (fun i _ e=>by rw [e]; exact HZP.out):Only Z w w2).trans ((Only.drew Z w2).trans ho5 (fun _ _ e=>e):Only Z w2 w3) (fun _ _ e=>e))
      have HZ5:Hid (∀ b,b < w2.heap.size→Z5 b→Z b):=hz5
      have HRR:=hide hR
      have HCS:=hide hcs
      have HON2:=hide hone
      clear hp5 ho5 hz5 hR hcs hone
      refine hK.out _ _ (HS3.out) (fun hHeld=>?_)
      clear hK K
      refine tkP 9 (.agg cs.toArray) rfl ?_
      refine tkP 10 (.bool is) rfl ?_
      refine rd1 11 rfl (fun K hK=>?_)
      rw [if_pos (by rfl)]
      refine wp_store_mid 50 (.tmp 8) (.tmp 56) rfl (w.heap.size+1+1) 0 cs.toArray rfl rfl HTH.out HSZ.out HON.out ?_
      refine hK.out _ _ (HS4.out) (fun hHeld=>?_)
      clear hK K
      simp only [Act.put]
      refine tkP 12 (.bool is) rfl ?_
      refine dnN ?_
      go_wp2_with fail
      refine bodyPost_ret (results_cb16 rfl rfl HC4.out HCS.out) rfl ?_
      refine ⟨Z5,P5,cs,is,⟨rfl,HCS.out,HON2.out⟩,fun b hb q=>HZ5.out b (Nat.lt_of_lt_of_le hb HO3.out.size) q,HP5.out.late (only_setCells (w.heap.size+1+1) cs 0 w3) (fun q=>HNR.out (HZ5.out _ HSZ2.out q)),?_,.inl ⟨HE.out,rfl,HRR.out⟩⟩
      exact HO5.out.trans (only_setCells (w.heap.size+1+1) cs 0 w3) (fun i hi e=>by omega)
  · have hb:(er != 0)=true:=by simp [he]
    have HE:=hide he
    clear he HT0
    have HF:=hide (failS_any w2 Z p P.sn HP2.out 60)
    go_wp2_with fail
    refine HF.out.mono ?_
    rintro x w4 ⟨rfl,hp,ho⟩
    have HP4:=hide hp
    have HO4:=hide ho
    have HR5:=hide (H32.out.2.2.kept HO4.out (fun q=>HNR.out (by rw [q]; exact HZP.out)))
    clear hp ho HF
    unfold noRec
    go_wp2_with (refine wpList_put_cb rfl 50 (.tmp 8) (.tmp 43) rfl (w.heap.size+1+1) rfl Hr.none.cl Hr.none.cl rfl Tryz.sizeRecF rfl rfl HR5.out ?_; intro W9 HW9; go_frame)
    refine bodyPost_ret (results_cb16 rfl rfl HW9.out.1 rfl) rfl ?_
    refine ⟨Z,_,Hr.none.cl,false,⟨rfl,rfl,rfl⟩,fun _ _ q=>q,HP4.out.late HW9.out.2 HNR.out,?_,.inr ⟨fun q=>HE.out q.1,rfl,rfl,by rw [if_neg (fun q=>HE.out q.1)]⟩⟩
    exact (((HO3.out.trans HO4.out (fun _ _ e=>e)).mono (fun k _ e=>by rw [e]; exact HZP.out)).trans (HW9.out.2) (fun i hi e=>by have:=HSZ2.out; omega))
end Go.Proofs.YtajjakljheafjaaGreat
