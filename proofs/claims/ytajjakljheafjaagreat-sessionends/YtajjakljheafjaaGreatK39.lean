/- Parts. -/
import Derived.Test.YtajjakljheafjaaGreatK38
set_option maxRecDepth 100000
namespace Go.Proofs.YtajjakljheafjaaGreat
open Go.RowKit
set_option maxHeartbeats 1600000 in
theorem page_mark (w:World) (Z:Nat→Prop) (p:Nat) (P:Pn) (h:Pm w Z p P) (V:Vv) (B:Pv) (fa:Option Addr) (fn fc:Nat) (hk:P.wk=3) (hsh:P.sh=some 164) (R:Pn→List Value→Bool→Prop)
    (hT:∀ W,Pm W Z p P→Only (fun _=>False) w W→Calls Tryz.prog 164 #[.pointer (some ⟨p,0,none⟩),.agg V.ar,.agg B.ar,.slice fa fn fc] W (SQ W Z p R)) :
    Calls Tryz.prog 12 #[.pointer (some ⟨p,0,none⟩),.agg V.ar,.agg B.ar,.slice fa fn fc] w (SQ w Z p R):=by
  have H3:=hide (St3.new w V B)
  have HH:=hide (h.more H3.out.only)
  have HT:=hide hT
  have HZW:=hide h.zlt
  have HZP:Hid (Z p):=h.zp
  have HWN:Hid (∀ W,Pm W Z p P→Calls Tryz.prog 30 #[.pointer (some ⟨p,0,none⟩),.int .i64 3] W fun e w'=>e=.returned (.bool true)∧w'=W):=fun W hW=>by
    have:=wants_any W Z p P hW 3
    rw [hk] at this
    exact this
  have c10:=HH.out.cb.c 10 _ rfl
  rw [hsh] at c10
  unfold fv at c10
  simp only [] at c10
  clear h hT hk hsh
  unfold Vv.ar Pv.ar at *
  have HNV:Hid (¬ Z w.heap.size):=fun q=>by have:=HZW.out _ q; omega
  have HNP:Hid (¬ Z (w.heap.size+1)):=fun q=>by have:=HZW.out _ q; omega
  have HNR:Hid (¬ Z (w.heap.size+1+1)):=fun q=>by have:=HZW.out _ q; omega
  go_enter Tryz.func12,Tryz.ntmps12
  go_upto_region 1 with fail
  obtain ⟨W0,hW0⟩:=exq (((w.alloc (.cells #[.int .i64 V.m,.int .i64 V.nx,.slice V.aA V.nA V.cA,.int .i64 V.ow,.slice V.aR V.nR V.cR,.int .i64 V.l,.int .i64 V.k,.int .i64 V.v,.int .i64 V.r,.string V.h,.slice V.aP V.nP V.cP] 42)).alloc (.cells #[.int .i64 B.a,.int .i64 B.k,.int .i64 B.v,.int .i64 B.r,.string B.h,.slice B.ao B.n B.cp] 37)).alloc (.cells Hr.none.cells 50))
  rw [hW0] at H3 HH c10 ⊢
  clear hW0
  have HSZ0:Hid (w.heap.size+1+1 < W0.heap.size):=H3.out.rb.lt
  go_wp2_with fail
  refine (HWN.out _ HH.out).mono ?_
  rintro x w1 ⟨rfl,h1⟩
  obtain rfl:=h1.symm
  go_upto_region 3 with fail
  refine wp_region_noPanic ?_
  refine wp_region_held_drew (S:=fun W=>Cb W w.heap.size V.ar.toList∧Cb W (w.heap.size+1) B.ar.toList) (by kernel_rfl) (⟨H3.out.vb.more (Only.drew _ _),H3.out.pb.more (Only.drew _ _)⟩) (fun hHeld=>?_)
  refine tkP 0 (.pointer (some ⟨p,0,none⟩)) rfl ?_
  refine tkQ 4 (.agg V.ar) rfl (yieldsIf_load_view (by rfl) _ rfl rfl (fun W hW=>hW.1)) ?_
  refine tkQ 5 (.agg #[.int .i64 B.a,.int .i64 B.k,.int .i64 B.v,.int .i64 B.r,.string B.h,.slice B.ao B.n B.cp]) rfl (yieldsIf_load_page (by rfl) _ rfl _ rfl (fun W hW=>hW.2.pag)) ?_
  refine tkP 6 (.slice fa fn fc) rfl ?_
  refine tkP 1 (.pointer (some ⟨p,0,none⟩)) rfl ?_
  refine tkP 2 (.pointer (some ⟨p,10,none⟩)) rfl ?_
  refine rd1 3 rfl (fun K hK=>?_)
  go_simp
  refine hK.out _ _ (hHeld) (fun hHeld=>?_)
  clear hK K
  refine rd1 7 rfl (fun K hK=>?_)
  go_simp
  refine (HT.out _ (HH.out.more (Only.drew _ _)) (o2 H3.out.only (Only.drew _ _))).mono ?_
  rintro x w3 ⟨Z5,P5,cs,is,⟨rfl,hcs,hone⟩,hz5,hp5,ho5,hR⟩
  have HS3:=hide (And.intro (H3.out.vb.kept ((Only.drew Z W0).trans ho5 (fun _ _ e=>e):Only Z W0 w3) HNV.out) (H3.out.pb.kept ((Only.drew Z W0).trans ho5 (fun _ _ e=>e):Only Z W0 w3) HNP.out))
  have HRB3:=hide (H3.out.rb.kept ((Only.drew Z W0).trans ho5 (fun _ _ e=>e):Only Z W0 w3) HNR.out)
  have HTH:Hid (w3.there (w.heap.size+1+1) 0 cs.toArray.size):=by have:=HRB3.out.rg.there; rw [show Hr.none.cl.length=cs.length from hcs.symm] at this; unfold Hid; simpa using this
  have HSZ:Hid ((Tryz.prog.info? 50).map (·.size)=some cs.toArray.size):=by unfold Hid; rw [Tryz.sizeRecF,List.size_toArray,hcs]
  have HON:Hid (cs.toArray.all Value.oneCell'=true):=by unfold Hid; simpa using hone
  have HC4:Hid (Cb (w3.setCells (w.heap.size+1+1) 0 cs) (w.heap.size+1+1) cs):=by have q:=Cb.sets (c1:=[]) (c2:=Hr.none.cl) (c3:=[]) (by simpa using HRB3.out) cs hcs; unfold Hid; simpa using q
  have HS4:=hide (And.intro (HS3.out.1.kept (only_setCells (w.heap.size+1+1) cs 0 w3) (by omega)) (HS3.out.2.kept (only_setCells (w.heap.size+1+1) cs 0 w3) (by omega)))
  have HP5:=hide hp5
  have HO5:=hide ((H3.out.only.mono (fun _ _ e=>e.elim):Only Z w W0).trans ((Only.drew Z W0).trans ho5 (fun _ _ e=>e):Only Z W0 w3) (fun _ _ e=>e))
  have HZ5:Hid (∀ b,b < W0.heap.size→Z5 b→Z b):=hz5
  have HRR:=hide hR
  have HCS:=hide hcs
  have HON2:=hide hone
  clear hp5 ho5 hz5 hR hcs hone
  refine hK.out _ _ (HS3.out) (fun hHeld=>?_)
  clear hK K
  refine tkP 8 (.agg cs.toArray) rfl ?_
  refine tkP 9 (.bool is) rfl ?_
  refine rd1 10 rfl (fun K hK=>?_)
  rw [if_pos (by rfl)]
  refine wp_store_mid 50 (.tmp 8) (.tmp 24) rfl (w.heap.size+1+1) 0 cs.toArray rfl rfl HTH.out HSZ.out HON.out ?_
  refine hK.out _ _ (HS4.out) (fun hHeld=>?_)
  clear hK K
  simp only [Act.put]
  refine tkP 11 (.bool is) rfl ?_
  refine dnN ?_
  go_wp2_with fail
  refine bodyPost_ret (results_cb16 rfl rfl HC4.out HCS.out) rfl ?_
  refine ⟨Z5,P5,cs,is,⟨rfl,HCS.out,HON2.out⟩,fun b hb q=>HZ5.out b (Nat.lt_trans hb (Nat.lt_trans (by omega) HSZ0.out)) q,HP5.out.late (only_setCells (w.heap.size+1+1) cs 0 w3) (fun q=>HNR.out (HZ5.out _ HSZ0.out q)),?_,HRR.out⟩
  exact HO5.out.trans (only_setCells (w.heap.size+1+1) cs 0 w3) (fun i hi e=>by omega)
set_option maxHeartbeats 1600000 in
theorem page_lay (w:World) (Z:Nat→Prop) (p:Nat) (P:Pn) (h:Pm w Z p P) (V:Vv) (B:Pv) (fa:Option Addr) (fn fc:Nat) (hk:P.wk=3) (hsh:P.sh=some 36) (R:Pn→List Value→Bool→Prop)
    (hT:∀ W,Pm W Z p P→Only (fun _=>False) w W→Calls Tryz.prog 36 #[.pointer (some ⟨p,0,none⟩),.agg V.ar,.agg B.ar,.slice fa fn fc] W (SQ W Z p R)) :
    Calls Tryz.prog 12 #[.pointer (some ⟨p,0,none⟩),.agg V.ar,.agg B.ar,.slice fa fn fc] w (SQ w Z p R):=by
  have H3:=hide (St3.new w V B)
  have HH:=hide (h.more H3.out.only)
  have HT:=hide hT
  have HZW:=hide h.zlt
  have HZP:Hid (Z p):=h.zp
  have HWN:Hid (∀ W,Pm W Z p P→Calls Tryz.prog 30 #[.pointer (some ⟨p,0,none⟩),.int .i64 3] W fun e w'=>e=.returned (.bool true)∧w'=W):=fun W hW=>by
    have:=wants_any W Z p P hW 3
    rw [hk] at this
    exact this
  have c10:=HH.out.cb.c 10 _ rfl
  rw [hsh] at c10
  unfold fv at c10
  simp only [] at c10
  clear h hT hk hsh
  unfold Vv.ar Pv.ar at *
  have HNV:Hid (¬ Z w.heap.size):=fun q=>by have:=HZW.out _ q; omega
  have HNP:Hid (¬ Z (w.heap.size+1)):=fun q=>by have:=HZW.out _ q; omega
  have HNR:Hid (¬ Z (w.heap.size+1+1)):=fun q=>by have:=HZW.out _ q; omega
  go_enter Tryz.func12,Tryz.ntmps12
  go_upto_region 1 with fail
  obtain ⟨W0,hW0⟩:=exq (((w.alloc (.cells #[.int .i64 V.m,.int .i64 V.nx,.slice V.aA V.nA V.cA,.int .i64 V.ow,.slice V.aR V.nR V.cR,.int .i64 V.l,.int .i64 V.k,.int .i64 V.v,.int .i64 V.r,.string V.h,.slice V.aP V.nP V.cP] 42)).alloc (.cells #[.int .i64 B.a,.int .i64 B.k,.int .i64 B.v,.int .i64 B.r,.string B.h,.slice B.ao B.n B.cp] 37)).alloc (.cells Hr.none.cells 50))
  rw [hW0] at H3 HH c10 ⊢
  clear hW0
  have HSZ0:Hid (w.heap.size+1+1 < W0.heap.size):=H3.out.rb.lt
  go_wp2_with fail
  refine (HWN.out _ HH.out).mono ?_
  rintro x w1 ⟨rfl,h1⟩
  obtain rfl:=h1.symm
  go_upto_region 3 with fail
  refine wp_region_noPanic ?_
  refine wp_region_held_drew (S:=fun W=>Cb W w.heap.size V.ar.toList∧Cb W (w.heap.size+1) B.ar.toList) (by kernel_rfl) (⟨H3.out.vb.more (Only.drew _ _),H3.out.pb.more (Only.drew _ _)⟩) (fun hHeld=>?_)
  refine tkP 0 (.pointer (some ⟨p,0,none⟩)) rfl ?_
  refine tkQ 4 (.agg V.ar) rfl (yieldsIf_load_view (by rfl) _ rfl rfl (fun W hW=>hW.1)) ?_
  refine tkQ 5 (.agg #[.int .i64 B.a,.int .i64 B.k,.int .i64 B.v,.int .i64 B.r,.string B.h,.slice B.ao B.n B.cp]) rfl (yieldsIf_load_page (by rfl) _ rfl _ rfl (fun W hW=>hW.2.pag)) ?_
  refine tkP 6 (.slice fa fn fc) rfl ?_
  refine tkP 1 (.pointer (some ⟨p,0,none⟩)) rfl ?_
  refine tkP 2 (.pointer (some ⟨p,10,none⟩)) rfl ?_
  refine rd1 3 rfl (fun K hK=>?_)
  go_simp
  refine hK.out _ _ (hHeld) (fun hHeld=>?_)
  clear hK K
  refine rd1 7 rfl (fun K hK=>?_)
  go_simp
  refine (HT.out _ (HH.out.more (Only.drew _ _)) (o2 H3.out.only (Only.drew _ _))).mono ?_
  rintro x w3 ⟨Z5,P5,cs,is,⟨rfl,hcs,hone⟩,hz5,hp5,ho5,hR⟩
  have HS3:=hide (And.intro (H3.out.vb.kept ((Only.drew Z W0).trans ho5 (fun _ _ e=>e):Only Z W0 w3) HNV.out) (H3.out.pb.kept ((Only.drew Z W0).trans ho5 (fun _ _ e=>e):Only Z W0 w3) HNP.out))
  have HRB3:=hide (H3.out.rb.kept ((Only.drew Z W0).trans ho5 (fun _ _ e=>e):Only Z W0 w3) HNR.out)
  have HTH:Hid (w3.there (w.heap.size+1+1) 0 cs.toArray.size):=by have:=HRB3.out.rg.there; rw [show Hr.none.cl.length=cs.length from hcs.symm] at this; unfold Hid; simpa using this
  have HSZ:Hid ((Tryz.prog.info? 50).map (·.size)=some cs.toArray.size):=by unfold Hid; rw [Tryz.sizeRecF,List.size_toArray,hcs]
  have HON:Hid (cs.toArray.all Value.oneCell'=true):=by unfold Hid; simpa using hone
  have HC4:Hid (Cb (w3.setCells (w.heap.size+1+1) 0 cs) (w.heap.size+1+1) cs):=by have q:=Cb.sets (c1:=[]) (c2:=Hr.none.cl) (c3:=[]) (by simpa using HRB3.out) cs hcs; unfold Hid; simpa using q
  have HS4:=hide (And.intro (HS3.out.1.kept (only_setCells (w.heap.size+1+1) cs 0 w3) (by omega)) (HS3.out.2.kept (only_setCells (w.heap.size+1+1) cs 0 w3) (by omega)))
  have HP5:=hide hp5
  have HO5:=hide ((H3.out.only.mono (fun _ _ e=>e.elim):Only Z w W0).trans ((Only.drew Z W0).trans ho5 (fun _ _ e=>e):Only Z W0 w3) (fun _ _ e=>e))
  have HZ5:Hid (∀ b,b < W0.heap.size→Z5 b→Z b):=hz5
  have HRR:=hide hR
  have HCS:=hide hcs
  have HON2:=hide hone
  clear hp5 ho5 hz5 hR hcs hone
  refine hK.out _ _ (HS3.out) (fun hHeld=>?_)
  clear hK K
  refine tkP 8 (.agg cs.toArray) rfl ?_
  refine tkP 9 (.bool is) rfl ?_
  refine rd1 10 rfl (fun K hK=>?_)
  rw [if_pos (by rfl)]
  refine wp_store_mid 50 (.tmp 8) (.tmp 24) rfl (w.heap.size+1+1) 0 cs.toArray rfl rfl HTH.out HSZ.out HON.out ?_
  refine hK.out _ _ (HS4.out) (fun hHeld=>?_)
  clear hK K
  simp only [Act.put]
  refine tkP 11 (.bool is) rfl ?_
  refine dnN ?_
  go_wp2_with fail
  refine bodyPost_ret (results_cb16 rfl rfl HC4.out HCS.out) rfl ?_
  refine ⟨Z5,P5,cs,is,⟨rfl,HCS.out,HON2.out⟩,fun b hb q=>HZ5.out b (Nat.lt_trans hb (Nat.lt_trans (by omega) HSZ0.out)) q,HP5.out.late (only_setCells (w.heap.size+1+1) cs 0 w3) (fun q=>HNR.out (HZ5.out _ HSZ0.out q)),?_,HRR.out⟩
  exact HO5.out.trans (only_setCells (w.heap.size+1+1) cs 0 w3) (fun i hi e=>by omega)
end Go.Proofs.YtajjakljheafjaaGreat
