/- Parts. -/
import Derived.Test.YtajjakljheafjaaGreatK32
import Derived.Test.YtajjakljheafjaaGreatK33
set_option maxRecDepth 100000
namespace Go.Proofs.YtajjakljheafjaaGreat
open Go.RowKit
def Pn.addP (P:Pn) (row:ByteArray × ByteArray) (a:Option Addr) (c:Nat):Pn:={ P with ra:=a,rows:=P.rows++[row],rc:=c }
def Pn.add (P:Pn) (row:ByteArray × ByteArray) (a:Option Addr) (c:Nat):Pn:=if ((P.rows++[row]).length:Int)=P.n then (P.addP row a c).fin else P.addP row a c
theorem Tryz.sizeRowF:(Tryz.prog.info? 80).map (·.size)=some 2:=by kernel_rfl
theorem yieldsIf_load_row {ops:Array Oper} {S:World→Prop} {op:Oper} {a:Act} {k v:ByteArray} (hw:Region.wanted op (yielded ops a.tmps)=true) (x:Operand) (ho:op.op=.load 80 x)
    {b:Nat} (hx:a.eval x=.pointer (some ⟨b,0,none⟩)) (hS:∀ w,S w→Cb w b [.string k,.string v]):YieldsIf Tryz.prog ops S op (.agg #[.string k,.string v]) a :=
  yieldsIf_load_mid hw 80 x ho b 0 hx [.string k,.string v] _ (fun w h=>(hS w h).rg.range) Tryz.underlying80 rfl Tryz.sizeRowF
theorem Pm.addP {Z:Nat→Prop} {W0 W2:World} {p:Nat} {P:Pn} (h:Pm W0 Z p P) {row:ByteArray × ByteArray} {a:Option Addr} {c:Nat} (ho:Only (fun k=>(Value.slice P.ra P.rows.length P.rc).ownBlock=some k) W0 W2)
    (hG:RowsAt W2 0 (.slice a (P.rows++[row]).length c) (P.rows++[row])) (hob:(Value.slice a (P.rows++[row]).length c).ownBlock=(Value.slice P.ra P.rows.length P.rc).ownBlock∨∃ k,(Value.slice a (P.rows++[row]).length c).ownBlock=some k∧W0.heap.size≤k) :
    Pm (W2.setCell ⟨p,27,none⟩ (.slice a (P.rows++[row]).length c)) (fun k=>Z k∨(Value.slice a (P.rows++[row]).length c).ownBlock=some k) p (P.addP row a c):=by
  have hpl:=h.zlt p h.zp
  have hlow:∀ k,(Value.slice a (P.rows++[row]).length c).ownBlock=some k→k < W2.heap.size:=fun k hk=>(hG.low k hk).2
  have hnp:¬ (Value.slice a (P.rows++[row]).length c).ownBlock=some p:=fun e=>by
    rcases hob with q | ⟨k,q,r⟩
    · exact (h.rz p (q.symm.trans e)).2 rfl
    · rw [e] at q; injection q with q; omega
  have ho2:=Only.put W2 p 27 (.slice a (P.rows++[row]).length c)
  have hcb:=(h.cb.kept ho (fun q=>(h.rz p q).2 rfl)).set 27 (.slice a (P.rows++[row]).length c)
  obtain ⟨B,hB,hb⟩:=h.hits
  refine ⟨hcb,.inl h.zp,?_,hG.kept ho2 (fun k hk e=>hnp (by rw [← e]; exact hk)),fun k hk=>⟨.inr hk,fun e=>hnp (by rw [← e]; exact hk)⟩,B,(hB.kept ho (fun q e=>(hb q).2.2 e)).kept ho2 (fun q e=>(hb q).2.1 e),fun q=>⟨.inl (hb q).1,(hb q).2.1,fun e=>?_⟩⟩
  · rintro b (q | q)
    · exact Nat.lt_of_lt_of_le (Nat.lt_of_lt_of_le (h.zlt b q) ho.size) ho2.size
    · exact Nat.lt_of_lt_of_le (hlow b q) ho2.size
  · rcases hob with r | ⟨k,r1,r2⟩
    · exact (hb q).2.2 (r.symm.trans e)
    · have:some k=some B:=r1.symm.trans e
      injection this with this
      have:=h.zlt B (hb q).1
      omega
set_option maxHeartbeats 1600000 in
theorem addRow_any (w:World) (Z:Nat→Prop) (p:Nat) (P:Pn) (h:Pm w Z p P) (hl:P.rows.length≤1000) (k v:ByteArray) :
    Calls Tryz.prog 182 #[.pointer (some ⟨p,0,none⟩),.agg #[.string k,.string v]] w fun e w'=>e=.returned (.tuple #[])∧∃ a c,PQ w w' Z p (P.add (k,v) a c):=by
  have HO:=hide (onlyA w (.cells #[.string k,.string v] 80))
  have HB:=hide (Cb.new w [.string k,.string v] 80)
  have HH:=hide (h.more HO.out)
  have HZW:=hide h.zlt
  clear h
  go_enter Tryz.func182,Tryz.ntmps182
  go_upto_region 1 with fail
  obtain ⟨W0,hW0⟩:=exq (w.alloc (.cells #[.string k,.string v] 80))
  rw [hW0] at HO HH ⊢
  rw [show w.alloc (.cells [Value.string k,.string v].toArray 80)=W0 from hW0] at HB
  clear hW0
  have c27:=HH.out.cb.c 27 _ rfl
  have f27:=HH.out.cb.f 27
  obtain ⟨b,hb⟩:=exq (w.heap.size)
  rw [hb] at HB ⊢
  have HWB:Hid (w.heap.size=b):=hb
  clear hb
  obtain ⟨V2,W2,hR,hG,hO2,hob⟩:=rows_one (w:=W0.drew) (HH.out.more (Only.drew _ _)).rows (k,v) hl (Nat.zero_le _) 53 1
  obtain ⟨a2,cp2,rfl⟩:=hG.form
  have hp2:=hob
  have HPM:=hide (Pm.addP (HH.out.more (Only.drew _ _)) hO2 hG (hob.elim Or.inl (fun q=>.inr ⟨_,q,Nat.le_succ _⟩)))
  have HZQ:Hid (∀ j,(Value.slice a2 (P.rows++[(k,v)]).length cp2).ownBlock=some j→w.heap.size≤j∨Z j):=fun j hk=>by
    rcases hob with q | q
    · exact .inr (HH.out.rz j (q.symm.trans hk)).1
    · have q2:some j=some (W0.drew.heap.size+1):=hk.symm.trans q
      injection q2 with q2
      have:=HB.out.lt
      have:W0.drew.heap.size=W0.heap.size:=rfl
      have:=HWB.out
      exact .inl (by omega)
  have HO2:=hide hO2
  have HN2E:Hid ((P.rows++[(k,v)]).length=P.rows.length+1):=by unfold Hid; simp
  clear hp2
  clear hG hO2 hob
  obtain ⟨n2,hn2⟩:=exq ((P.rows++[(k,v)]).length)
  rw [hn2] at hR
  have HN2:=hide hn2
  clear hn2
  have HBL:Hid (b < W0.heap.size):=HB.out.lt
  have HRN:Hid (¬ (Value.slice P.ra P.rows.length P.rc).ownBlock=some p):=fun e=>(HH.out.rz p e).2 rfl
  have HRB:Hid (¬ (Value.slice P.ra P.rows.length P.rc).ownBlock=some b):=fun e=>by have:=HZW.out _ (HH.out.rz b e).1; have:=HWB.out; omega
  have HC2:Hid (W2.cell? ⟨p,27,none⟩=some (.slice P.ra P.rows.length P.rc)∧W2.frozen? ⟨p,27,none⟩=false) :=
    ⟨(HO2.out.cell (p:=⟨p,27,none⟩) (HH.out.zlt p HH.out.zp) HRN.out).trans c27,(HO2.out.frozen (p:=⟨p,27,none⟩) (HH.out.zlt p HH.out.zp) HRN.out).trans f27⟩
  have HB3:Hid (Cb W2 b [.string k,.string v]):=(HB.out.more (Only.drew _ _)).kept HO2.out HRB.out
  have HPB:Hid (¬ b=p):=fun e=>by have:=HZW.out p HH.out.zp; have:=HWB.out; omega
  have HB4:Hid (Cb (W2.setCell ⟨p,27,none⟩ (.slice a2 n2 cp2)) b [.string k,.string v]):=HB3.out.kept (Only.put _ _ _ _) HPB.out
  obtain ⟨n,hn⟩:=exq (P.rows.length)
  have HN:=hide hn
  rw [hn] at c27 hR HC2
  clear hn
  have HR:Hid ((Builtin.append_ #[53,53] 53 #[.slice P.ra n P.rc,.slice (some ⟨W0.heap.size,0,none⟩) 1 1]).run Tryz.prog ((W0.alloc (.cells #[.string k,.string v] 80)).drew)=.ok (.slice a2 n2 cp2) W2):=hR
  have c27a:(W0.alloc (.cells #[.string k,.string v] 80)).cell? ⟨p,27,none⟩=some (.slice P.ra n P.rc):=((onlyA W0 _).cell (p:=⟨p,27,none⟩) (HH.out.zlt p HH.out.zp) id).trans c27
  have c27b:W2.cell? ⟨p,27,none⟩=some (.slice P.ra n P.rc):=HC2.out.1
  have f27b:W2.frozen? ⟨p,27,none⟩=false:=HC2.out.2
  clear hR
  refine wp_region_noPanic ?_
  refine wp_region_held_drew (S:=fun W=>Cb W b [.string k,.string v]) (by kernel_rfl) (HB.out.more (Only.drew _ _)) (fun hHeld=>?_)
  refine tkP 0 (.pointer (some ⟨p,0,none⟩)) rfl ?_
  refine tkP 1 (.pointer (some ⟨p,0,none⟩)) rfl ?_
  refine tkQ 6 (.agg #[.string k,.string v]) rfl (yieldsIf_load_row (by rfl) _ rfl rfl (fun W hW=>hW)) ?_
  refine tkP 2 (.pointer (some ⟨p,0,none⟩)) rfl ?_
  refine tkP 3 (.pointer (some ⟨p,24,none⟩)) rfl ?_
  refine tkP 4 (.pointer (some ⟨p,27,none⟩)) rfl ?_
  refine wpAnyH_ready (rs:=[5,7]) (by kernel_rfl) (by simp) ?_
  refine arC rfl (fun K hK=>?_) (arC rfl (fun K hK=>?_) (AllReadyH.nil))
  · go_simp
    refine hK.out _ _ (hHeld) (fun hHeld=>?_)
    clear hK K
    try simp only [Act.put,lsA,lsB,lsC]
    refine rd1 7 rfl (fun K hK=>?_)
    go_simp
    refine hK.out _ _ (hHeld.more (onlyA _ _)) (fun hHeld=>?_)
    clear hK K
    try simp only [Act.put,lsA,lsB,lsC]
    refine rd1 8 rfl (fun K hK=>?_)
    rw [if_pos (by rfl)]
    refine Lib.wp_append_run _ _ _ _ _ rfl _ _ rfl rfl _ _ HR.out ?_
    refine hK.out _ _ (HB3.out) (fun hHeld=>?_)
    clear hK K
    try simp only [Act.put,lsA,lsB,lsC]
    refine tkP 9 (.pointer (some ⟨p,0,none⟩)) rfl ?_
    refine tkP 10 (.pointer (some ⟨p,24,none⟩)) rfl ?_
    refine tkP 11 (.pointer (some ⟨p,27,none⟩)) rfl ?_
    refine rd1 12 rfl (fun K hK=>?_)
    go_simp
    refine hK.out _ _ (HB4.out) (fun hHeld=>?_)
    clear hK K
    try simp only [Act.put,lsA,lsB,lsC]
    refine dnN ?_
    rw [show W2.setCell ⟨p,27,none⟩ (.slice a2 n2 cp2)=W2.setCell ⟨p,27,none⟩ (.slice a2 (P.rows++[(k,v)]).length cp2) from by rw [HN2.out]] at *
    have HOZ:Hid (Only Z w (W2.setCell ⟨p,27,none⟩ (.slice a2 (P.rows++[(k,v)]).length cp2))):=(((HO.out.mono (fun _ _ e=>e.elim)).trans (Only.drew (fun _=>False) W0) (fun _ _ e=>e.elim):Only Z w W0.drew).trans ((HO2.out.mono (fun i _ e=>(HH.out.rz i e).1)).trans ((Only.put W2 p 27 (.slice a2 (P.rows++[(k,v)]).length cp2)).mono (fun i _ e=>by rw [e]; exact HH.out.zp)) (fun _ _ e=>e)) (fun _ _ e=>e))
    obtain ⟨w3,hw3⟩:=exq (W2.setCell ⟨p,27,none⟩ (.slice a2 (P.rows++[(k,v)]).length cp2))
    rw [hw3] at HPM HOZ ⊢
    have HZ2:Hid (∀ b,b < w.heap.size→(Z b∨(Value.slice a2 (P.rows++[(k,v)]).length cp2).ownBlock=some b)→Z b):=fun b hb q=>q.elim id (fun q=>(HZQ.out b q).elim (fun r=>absurd hb (by omega)) id)
    have HZP:Hid (Z p):=HH.out.zp
    clear hw3 HR HB3 HB4 HC2 c27 c27a c27b f27 f27b hHeld HB HRN HRB HO2 HO HH HBL HPB HWB HN HN2E HZQ
    have d4:=HPM.out.cb.c 4 _ rfl
    have d24:=HPM.out.cb.c 24 _ rfl
    have d25:=HPM.out.cb.c 25 _ rfl
    have d26:=HPM.out.cb.c 26 _ rfl
    have d27:=HPM.out.cb.c 27 _ rfl
    rw [show (Value.slice (P.addP (k,v) a2 cp2).ra (P.addP (k,v) a2 cp2).rows.length (P.addP (k,v) a2 cp2).rc)=.slice a2 n2 cp2 from by rw [← HN2.out]; rfl] at d27
    rw [show (P.addP (k,v) a2 cp2).n=P.n from rfl] at d4
    by_cases heq:((P.rows++[(k,v)]).length:Int)=P.n
    · have hb:((n2:Int) == P.n)=true:=by rw [← HN2.out]; simpa using heq
      have HEQ:=hide heq
      clear heq
      have HF:Hid (Calls Tryz.prog 33 #[.pointer (some ⟨p,0,none⟩),.agg #[.int .i64 (P.addP (k,v) a2 cp2).err,.bool (P.addP (k,v) a2 cp2).found,.string (P.addP (k,v) a2 cp2).val,.slice a2 n2 cp2]] w3.drew fun e w'=>e=.returned (.tuple #[])∧Pm w' (fun j=>Z j∨(Value.slice a2 (P.rows++[(k,v)]).length cp2).ownBlock=some j) p (P.addP (k,v) a2 cp2).fin∧Only (fun k=>k=p) w3.drew w'):=by
        rw [← HN2.out]
        exact fin_any _ _ p _ (HPM.out.more (Only.drew _ _))
      go_upto_region 2 with fail
      go_region
      go_wp2_with fail
      refine HF.out.mono ?_
      rintro x w4 ⟨rfl,hp,ho⟩
      have HP4:=hide hp
      have HO4:=hide (((HOZ.out.trans (Only.drew (fun _=>False) w3) (fun _ _ e=>e.elim)).trans (ho.mono (fun i _ e=>by rw [e]; exact HZP.out)) (fun _ _ e=>e)):Only Z w w4)
      clear hp ho
      go_wp2_with fail
      refine bodyPost_end (results_none rfl _ _ _) rfl ?_
      exact ⟨rfl,a2,cp2,_,HZ2.out,by unfold Pn.add; rw [if_pos HEQ.out]; exact HP4.out,HO4.out⟩
    · have hb:((n2:Int) == P.n)=false:=by rw [← HN2.out]; simpa using heq
      have HEQ:=hide heq
      clear heq
      go_upto_region 2 with fail
      go_region
      go_wp2_with fail
      refine bodyPost_end (results_none rfl _ _ _) rfl ?_
      exact ⟨rfl,a2,cp2,_,HZ2.out,by unfold Pn.add; rw [if_neg HEQ.out]; exact HPM.out.more (Only.drew _ _),HOZ.out.trans (Only.drew (fun _=>False) w3) (fun _ _ e=>e.elim)⟩
  · go_simp
    refine hK.out _ _ (hHeld.more (onlyA _ _)) (fun hHeld=>?_)
    clear hK K
    try simp only [Act.put,lsA,lsB,lsC]
    refine rd1 5 rfl (fun K hK=>?_)
    go_simp
    refine hK.out _ _ (hHeld) (fun hHeld=>?_)
    clear hK K
    try simp only [Act.put,lsA,lsB,lsC]
    refine rd1 8 rfl (fun K hK=>?_)
    rw [if_pos (by rfl)]
    refine Lib.wp_append_run _ _ _ _ _ rfl _ _ rfl rfl _ _ HR.out ?_
    refine hK.out _ _ (HB3.out) (fun hHeld=>?_)
    clear hK K
    try simp only [Act.put,lsA,lsB,lsC]
    refine tkP 9 (.pointer (some ⟨p,0,none⟩)) rfl ?_
    refine tkP 10 (.pointer (some ⟨p,24,none⟩)) rfl ?_
    refine tkP 11 (.pointer (some ⟨p,27,none⟩)) rfl ?_
    refine rd1 12 rfl (fun K hK=>?_)
    go_simp
    refine hK.out _ _ (HB4.out) (fun hHeld=>?_)
    clear hK K
    try simp only [Act.put,lsA,lsB,lsC]
    refine dnN ?_
    rw [show W2.setCell ⟨p,27,none⟩ (.slice a2 n2 cp2)=W2.setCell ⟨p,27,none⟩ (.slice a2 (P.rows++[(k,v)]).length cp2) from by rw [HN2.out]] at *
    have HOZ:Hid (Only Z w (W2.setCell ⟨p,27,none⟩ (.slice a2 (P.rows++[(k,v)]).length cp2))):=(((HO.out.mono (fun _ _ e=>e.elim)).trans (Only.drew (fun _=>False) W0) (fun _ _ e=>e.elim):Only Z w W0.drew).trans ((HO2.out.mono (fun i _ e=>(HH.out.rz i e).1)).trans ((Only.put W2 p 27 (.slice a2 (P.rows++[(k,v)]).length cp2)).mono (fun i _ e=>by rw [e]; exact HH.out.zp)) (fun _ _ e=>e)) (fun _ _ e=>e))
    obtain ⟨w3,hw3⟩:=exq (W2.setCell ⟨p,27,none⟩ (.slice a2 (P.rows++[(k,v)]).length cp2))
    rw [hw3] at HPM HOZ ⊢
    have HZ2:Hid (∀ b,b < w.heap.size→(Z b∨(Value.slice a2 (P.rows++[(k,v)]).length cp2).ownBlock=some b)→Z b):=fun b hb q=>q.elim id (fun q=>(HZQ.out b q).elim (fun r=>absurd hb (by omega)) id)
    have HZP:Hid (Z p):=HH.out.zp
    clear hw3 HR HB3 HB4 HC2 c27 c27a c27b f27 f27b hHeld HB HRN HRB HO2 HO HH HBL HPB HWB HN HN2E HZQ
    have d4:=HPM.out.cb.c 4 _ rfl
    have d24:=HPM.out.cb.c 24 _ rfl
    have d25:=HPM.out.cb.c 25 _ rfl
    have d26:=HPM.out.cb.c 26 _ rfl
    have d27:=HPM.out.cb.c 27 _ rfl
    rw [show (Value.slice (P.addP (k,v) a2 cp2).ra (P.addP (k,v) a2 cp2).rows.length (P.addP (k,v) a2 cp2).rc)=.slice a2 n2 cp2 from by rw [← HN2.out]; rfl] at d27
    rw [show (P.addP (k,v) a2 cp2).n=P.n from rfl] at d4
    by_cases heq:((P.rows++[(k,v)]).length:Int)=P.n
    · have hb:((n2:Int) == P.n)=true:=by rw [← HN2.out]; simpa using heq
      have HEQ:=hide heq
      clear heq
      have HF:Hid (Calls Tryz.prog 33 #[.pointer (some ⟨p,0,none⟩),.agg #[.int .i64 (P.addP (k,v) a2 cp2).err,.bool (P.addP (k,v) a2 cp2).found,.string (P.addP (k,v) a2 cp2).val,.slice a2 n2 cp2]] w3.drew fun e w'=>e=.returned (.tuple #[])∧Pm w' (fun j=>Z j∨(Value.slice a2 (P.rows++[(k,v)]).length cp2).ownBlock=some j) p (P.addP (k,v) a2 cp2).fin∧Only (fun k=>k=p) w3.drew w'):=by
        rw [← HN2.out]
        exact fin_any _ _ p _ (HPM.out.more (Only.drew _ _))
      go_upto_region 2 with fail
      go_region
      go_wp2_with fail
      refine HF.out.mono ?_
      rintro x w4 ⟨rfl,hp,ho⟩
      have HP4:=hide hp
      have HO4:=hide (((HOZ.out.trans (Only.drew (fun _=>False) w3) (fun _ _ e=>e.elim)).trans (ho.mono (fun i _ e=>by rw [e]; exact HZP.out)) (fun _ _ e=>e)):Only Z w w4)
      clear hp ho
      go_wp2_with fail
      refine bodyPost_end (results_none rfl _ _ _) rfl ?_
      exact ⟨rfl,a2,cp2,_,HZ2.out,by unfold Pn.add; rw [if_pos HEQ.out]; exact HP4.out,HO4.out⟩
    · have hb:((n2:Int) == P.n)=false:=by rw [← HN2.out]; simpa using heq
      have HEQ:=hide heq
      clear heq
      go_upto_region 2 with fail
      go_region
      go_wp2_with fail
      refine bodyPost_end (results_none rfl _ _ _) rfl ?_
      exact ⟨rfl,a2,cp2,_,HZ2.out,by unfold Pn.add; rw [if_neg HEQ.out]; exact HPM.out.more (Only.drew _ _),HOZ.out.trans (Only.drew (fun _=>False) w3) (fun _ _ e=>e.elim)⟩
end Go.Proofs.YtajjakljheafjaaGreat
