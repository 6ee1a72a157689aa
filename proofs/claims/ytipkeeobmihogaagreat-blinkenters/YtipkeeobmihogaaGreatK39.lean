/- Parts. -/
import Derived.Test.YtipkeeobmihogaaGreatK38
set_option maxRecDepth 100000
namespace Go.Proofs.YtipkeeobmihogaaGreat
open Go.RowKit
set_option maxHeartbeats 1600000 in
theorem yput_none (w:World) (a k v r:Int) (h:ByteArray) (it:ByteArray) (hit:it.size≤140737488355328) (hh:h.size≤140737488355328) :
    Calls Tryz.prog 119 #[.agg #[.int .i64 a,.int .i64 k,.int .i64 v,.int .i64 r,.string h,.slice none 0 0],.int .i64 0,.string it] w fun e w'=>
      Res w w' e (chg (true=true∧(255 < ([]++[it]++[]:List ByteArray).length∨512 < 20+h.size+isz ([]++[it]++[]))) ⟨a,k,v,r,h,[]++[it]++[]⟩).1 (chg (true=true∧(255 < ([]++[it]++[]:List ByteArray).length∨512 < 20+h.size+isz ([]++[it]++[]))) ⟨a,k,v,r,h,[]++[it]++[]⟩).2:=by
  have HB0:=hide (boxes_only w a k v r h (.slice none 0 0))
  have HB1:=hide (boxes_one w a k v r h (.slice none 0 0))
  have HB2:=hide (boxes_two w a k v r h (.slice none 0 0))
  have HBZ:=hide (boxes_size w a k v r h (.slice none 0 0))
  obtain ⟨W0,hW0⟩:=exq (boxes w a k v r h (.slice none 0 0))
  rw [hW0] at HB0 HB1 HB2 HBZ
  have HW0:=hide hW0
  clear hW0
  have hW1:Only (fun _=>False) W0 (W0.drew.alloc (.cells #[.string it] 9)):=o2 (Only.drew _ _) (onlyA _ _)
  have HC:=hide (changed_any (W0.drew.alloc (.cells #[.string it] 9)) a k v r h (.slice none 0 0) none (some ⟨W0.heap.size,0,none⟩) none 0 W0.heap.size 0 0 1 0 0 1 0 [] [it] [] true rfl rfl rfl
    (Strs.nil _ _ _) (Strs.one W0.drew it hit) (Strs.nil _ _ _) ⟨fun _=>rfl,by omega,by unfold maxLen; omega⟩ ⟨fun h=>(by cases h),by omega,by unfold maxLen; omega⟩ ⟨fun _=>rfl,by omega,by unfold maxLen; omega⟩ hh (by omega))
  have HW1:=hide hW1
  have HBS:Hid (w.heap.size+1 < (W0.drew.alloc (.cells #[.string it] 9)).heap.size):=by unfold Hid; have h1:=hW1.size; have h2:=HBZ.out; omega
  obtain ⟨P,hP⟩:=exq (chg (true=true∧(255 < ([]++[it]++[]:List ByteArray).length∨512 < 20+h.size+isz ([]++[it]++[]))) ⟨a,k,v,r,h,[]++[it]++[]⟩)
  rw [hP]
  have HP:=hide hP
  clear hP hW1
  obtain ⟨p0,p1,p2,p3,p4,p5,g0,g1,g2,g3,g4,g5,gl⟩:=HB1.out
  go_enter Tryz.func119,Tryz.ntmps119
  go_upto_region 1 with fail
  rw [show (w.alloc (.cells #[.int .i64 a,.int .i64 k,.int .i64 v,.int .i64 r,.string h,.slice none 0 0] 24)).alloc (.cells #[.int .i64 0,.int .i64 0,.int .i64 0,.int .i64 0,.string ⟨#[]⟩,.slice none 0 0] 24)=W0 from HW0.out]
  go_upto_region 3 with fail
  refine wp_region_noPanic ?_
  refine wp_region_held_drew (S:=fun W=>Only (fun k=>k=w.heap.size+1) W0 W) (by kernel_rfl) (Only.drew _ _) (fun hHeld=>?_)
  refine tkQ 0 (.agg #[.int .i64 a,.int .i64 k,.int .i64 v,.int .i64 r,.string h,.slice none 0 0]) rfl (yieldsIf_load_page (by rfl) _ rfl _ rfl (fun W hW=>HB1.out.kept hW (by omega))) ?_
  refine tkP 1 (.pointer (some ⟨w.heap.size,5,none⟩)) rfl ?_
  refine tkP 3 (.int .i64 0) rfl ?_
  refine tkP 5 (.string it) rfl ?_
  refine tkP 7 (.pointer (some ⟨w.heap.size,5,none⟩)) rfl ?_
  refine tkP 9 (.int .i64 0) rfl ?_
  refine tkQ 2 (.slice none 0 0) rfl (yieldsIf_load_cell (by rfl) 22 _ rfl _ rfl (fun W hW=>(HB1.out.kept hW (by omega)).c5) (fun W hc=>ld_strings hc)) ?_
  refine tkQ 8 (.slice none 0 0) rfl (yieldsIf_load_cell (by rfl) 22 _ rfl _ rfl (fun W hW=>(HB1.out.kept hW (by omega)).c5) (fun W hc=>ld_strings hc)) ?_
  refine tkP 4 (.slice none 0 0) rfl ?_
  refine tkP 10 (.slice none 0 0) rfl ?_
  refine rd1 6 rfl (fun K hK=>?_)
  go_simp
  refine hK.out _ _ (only_any HW1.out) (fun hHeld=>?_)
  clear hK K
  try simp only [Act.put,lsA,lsB,lsC]
  refine rd1 11 rfl (fun K hK=>?_)
  go_simp
  refine HC.out.mono ?_
  intro e x hx
  have hx:=hx.res
  obtain ⟨B5,ao5,cp5,rfl,hS5,hF5,ho5,hn5⟩:=(show Res _ x e P.1 P.2 from by rw [← HP.out]; exact hx)
  have HO5:=hide ho5
  obtain ⟨q0,q1,q2,q3,q4,q5,t0,t1,t2,t3,t4,t5,tl⟩:=HB2.out.more (o2 HW1.out ho5)
  have HS5:=hide hS5
  have HN5:=hide hn5
  clear hx hS5 ho5 hn5
  refine hK.out _ _ (only_any (o2 HW1.out HO5.out)) (fun hHeld=>?_)
  clear hK K
  try simp only [Act.put,lsA,lsB,lsC]
  refine tkP 12 (.agg #[.int .i64 P.1.lsn,.int .i64 P.1.kind,.int .i64 P.1.level,.int .i64 P.1.right,.string P.1.high,.slice ao5 P.1.items.length cp5]) rfl ?_
  refine tkP 13 (.int .i64 P.2) rfl ?_
  refine rd1 14 rfl (fun K hK=>?_)
  go_simp
  refine hK.out _ _ ((only_any (o2 HW1.out HO5.out)).trans (Only.six _ _ _ _ _ _ _ _) (fun _ _ h=>h)) (fun hHeld=>?_)
  clear hK K
  try simp only [Act.put,lsA,lsB,lsC]
  refine tkP 15 (.int .i64 P.2) rfl ?_
  refine dnN ?_
  rw [Exit.then]
  go_wp2_with fail
  refine bodyPost_ret (results_page rfl rfl (Pag.six (HB2.out.more (o2 HW1.out HO5.out)) _ _ _ _ _ _)) rfl ?_
  exact res_laid (o2 HB0.out HW1.out) HBS.out HS5.out hF5 HO5.out HN5.out _ _ _ _ _ _
set_option maxHeartbeats 1600000 in
theorem yput_emp (w:World) (a k v r:Int) (h:ByteArray) (A:Addr) (cp:Nat) (hbig:cp≤maxLen) (it:ByteArray) (hit:it.size≤140737488355328) (hh:h.size≤140737488355328) :
    Calls Tryz.prog 119 #[.agg #[.int .i64 a,.int .i64 k,.int .i64 v,.int .i64 r,.string h,.slice (some A) 0 cp],.int .i64 0,.string it] w fun e w'=>
      Res w w' e (chg (true=true∧(255 < ([]++[it]++[]:List ByteArray).length∨512 < 20+h.size+isz ([]++[it]++[]))) ⟨a,k,v,r,h,[]++[it]++[]⟩).1 (chg (true=true∧(255 < ([]++[it]++[]:List ByteArray).length∨512 < 20+h.size+isz ([]++[it]++[]))) ⟨a,k,v,r,h,[]++[it]++[]⟩).2:=by
  have HB0:=hide (boxes_only w a k v r h (.slice (some A) 0 cp))
  have HB1:=hide (boxes_one w a k v r h (.slice (some A) 0 cp))
  have HB2:=hide (boxes_two w a k v r h (.slice (some A) 0 cp))
  have HBZ:=hide (boxes_size w a k v r h (.slice (some A) 0 cp))
  obtain ⟨W0,hW0⟩:=exq (boxes w a k v r h (.slice (some A) 0 cp))
  rw [hW0] at HB0 HB1 HB2 HBZ
  have HW0:=hide hW0
  clear hW0
  have hW1:Only (fun _=>False) W0 (W0.drew.alloc (.cells #[.string it] 9)):=o2 (Only.drew _ _) (onlyA _ _)
  have HC:=hide (changed_any (W0.drew.alloc (.cells #[.string it] 9)) a k v r h (.slice (some A) 0 cp) (some A) (some ⟨W0.heap.size,0,none⟩) (some A) 0 W0.heap.size 0 cp 1 cp 0 1 0 [] [it] [] true rfl rfl rfl
    (Strs.nil _ _ _) (Strs.one W0.drew it hit) (Strs.nil _ _ _) ⟨fun h=>(by cases h),by omega,hbig⟩ ⟨fun h=>(by cases h),by omega,by unfold maxLen; omega⟩ ⟨fun h=>(by cases h),by omega,hbig⟩ hh (by omega))
  have HW1:=hide hW1
  have HBS:Hid (w.heap.size+1 < (W0.drew.alloc (.cells #[.string it] 9)).heap.size):=by unfold Hid; have h1:=hW1.size; have h2:=HBZ.out; omega
  obtain ⟨P,hP⟩:=exq (chg (true=true∧(255 < ([]++[it]++[]:List ByteArray).length∨512 < 20+h.size+isz ([]++[it]++[]))) ⟨a,k,v,r,h,[]++[it]++[]⟩)
  rw [hP]
  have HP:=hide hP
  clear hP hW1
  have hadd:A.add 0=A:=by unfold Addr.add; simp
  have hcp0:(0:Int)≤(cp:Int):=by omega
  unfold maxLen at hbig
  obtain ⟨p0,p1,p2,p3,p4,p5,g0,g1,g2,g3,g4,g5,gl⟩:=HB1.out
  go_enter Tryz.func119,Tryz.ntmps119
  go_upto_region 1 with fail
  rw [show (w.alloc (.cells #[.int .i64 a,.int .i64 k,.int .i64 v,.int .i64 r,.string h,.slice (some A) 0 cp] 24)).alloc (.cells #[.int .i64 0,.int .i64 0,.int .i64 0,.int .i64 0,.string ⟨#[]⟩,.slice none 0 0] 24)=W0 from HW0.out]
  go_upto_region 3 with fail
  refine wp_region_noPanic ?_
  refine wp_region_held_drew (S:=fun W=>Only (fun k=>k=w.heap.size+1) W0 W) (by kernel_rfl) (Only.drew _ _) (fun hHeld=>?_)
  refine tkQ 0 (.agg #[.int .i64 a,.int .i64 k,.int .i64 v,.int .i64 r,.string h,.slice (some A) 0 cp]) rfl (yieldsIf_load_page (by rfl) _ rfl _ rfl (fun W hW=>HB1.out.kept hW (by omega))) ?_
  refine tkP 1 (.pointer (some ⟨w.heap.size,5,none⟩)) rfl ?_
  refine tkP 3 (.int .i64 0) rfl ?_
  refine tkP 5 (.string it) rfl ?_
  refine tkP 7 (.pointer (some ⟨w.heap.size,5,none⟩)) rfl ?_
  refine tkP 9 (.int .i64 0) rfl ?_
  refine tkQ 2 (.slice (some A) 0 cp) rfl (yieldsIf_load_cell (by rfl) 22 _ rfl _ rfl (fun W hW=>(HB1.out.kept hW (by omega)).c5) (fun W hc=>ld_strings hc)) ?_
  refine tkQ 8 (.slice (some A) 0 cp) rfl (yieldsIf_load_cell (by rfl) 22 _ rfl _ rfl (fun W hW=>(HB1.out.kept hW (by omega)).c5) (fun W hc=>ld_strings hc)) ?_
  refine tkP 4 (.slice (some A) 0 cp) rfl ?_
  refine tkP 10 (.slice (some A) 0 cp) rfl ?_
  refine rd1 6 rfl (fun K hK=>?_)
  go_simp
  refine hK.out _ _ (only_any HW1.out) (fun hHeld=>?_)
  clear hK K
  try simp only [Act.put,lsA,lsB,lsC]
  refine rd1 11 rfl (fun K hK=>?_)
  go_simp
  refine HC.out.mono ?_
  intro e x hx
  have hx:=hx.res
  obtain ⟨B5,ao5,cp5,rfl,hS5,hF5,ho5,hn5⟩:=(show Res _ x e P.1 P.2 from by rw [← HP.out]; exact hx)
  have HO5:=hide ho5
  obtain ⟨q0,q1,q2,q3,q4,q5,t0,t1,t2,t3,t4,t5,tl⟩:=HB2.out.more (o2 HW1.out ho5)
  have HS5:=hide hS5
  have HN5:=hide hn5
  clear hx hS5 ho5 hn5
  refine hK.out _ _ (only_any (o2 HW1.out HO5.out)) (fun hHeld=>?_)
  clear hK K
  try simp only [Act.put,lsA,lsB,lsC]
  refine tkP 12 (.agg #[.int .i64 P.1.lsn,.int .i64 P.1.kind,.int .i64 P.1.level,.int .i64 P.1.right,.string P.1.high,.slice ao5 P.1.items.length cp5]) rfl ?_
  refine tkP 13 (.int .i64 P.2) rfl ?_
  refine rd1 14 rfl (fun K hK=>?_)
  go_simp
  refine hK.out _ _ ((only_any (o2 HW1.out HO5.out)).trans (Only.six _ _ _ _ _ _ _ _) (fun _ _ h=>h)) (fun hHeld=>?_)
  clear hK K
  try simp only [Act.put,lsA,lsB,lsC]
  refine tkP 15 (.int .i64 P.2) rfl ?_
  refine dnN ?_
  rw [Exit.then]
  go_wp2_with fail
  refine bodyPost_ret (results_page rfl rfl (Pag.six (HB2.out.more (o2 HW1.out HO5.out)) _ _ _ _ _ _)) rfl ?_
  exact res_laid (o2 HB0.out HW1.out) HBS.out HS5.out hF5 HO5.out HN5.out _ _ _ _ _ _
end Go.Proofs.YtipkeeobmihogaaGreat
