/- Parts. -/
import Derived.Test.YtipkeeobmihogaaGreatK39
import Derived.Test.YtipkeeobmihogaaGreatK40
import Derived.Deep.QuietTactic
import Derived.BigQuiet
set_option maxRecDepth 100000
namespace Go.Proofs.YtipkeeobmihogaaGreat
open Go.RowKit
theorem Or3.of_chg {w w':World} {e:Ending} {c:Prop} {p:Pg} (h:Res w w' e (chg c p).1 (chg c p).2):Or3 w w' e c p:=by
  unfold chg at h
  refine ⟨fun hc=>?_,fun hc=>?_⟩
  · rw [if_pos hc] at h; exact h
  · rw [if_neg hc] at h; exact h
theorem chg_same {c c':Prop} {p p':Pg} (hc:c ↔ c') (hp:p=p'):chg c p=chg c' p':=by rw [propext hc,hp]
theorem yput_at (w:World) (a k v r:Int) (h:ByteArray) (B cp:Nat) (ao:Option Addr) (l:List ByteArray) (n:Nat) (it:ByteArray) (hS:Strs w B ao l) (hF:Fit ao l.length cp) (hh:h.size≤140737488355328) (hit:it.size≤140737488355328) (hn:n≤l.length) (hlm:l.length≤8796093021952) :
    Calls Tryz.prog 119 #[.agg #[.int .i64 a,.int .i64 k,.int .i64 v,.int .i64 r,.string h,.slice ao l.length cp],.int .i64 (n:Int),.string it] w fun e w'=>Or3 w w' e (255 < (l.take n++it :: l.drop n).length∨512 < 20+h.size+isz (l.take n++it :: l.drop n)) ⟨a,k,v,r,h,l.take n++it :: l.drop n⟩:=by
  refine Calls.mono (R:=fun e w'=>Res w w' e (chg (255 < (l.take n++it :: l.drop n).length∨512 < 20+h.size+isz (l.take n++it :: l.drop n)) ⟨a,k,v,r,h,l.take n++it :: l.drop n⟩).1 (chg (255 < (l.take n++it :: l.drop n).length∨512 < 20+h.size+isz (l.take n++it :: l.drop n)) ⟨a,k,v,r,h,l.take n++it :: l.drop n⟩).2) ?_ (fun e w' hx=>Or3.of_chg hx)
  by_cases h0:l.length=0
  · have e:l=[]:=List.eq_nil_of_length_eq_zero h0
    subst e
    have e2:n=0:=by simp at hn; omega
    subst e2
    have key:∀ P:Ending→World→Prop,(Calls Tryz.prog 119 #[.agg #[.int .i64 a,.int .i64 k,.int .i64 v,.int .i64 r,.string h,.slice ao 0 cp],.int .i64 0,.string it] w fun e w'=>Res w w' e (chg (true=true∧(255 < ([]++[it]++[]:List ByteArray).length∨512 < 20+h.size+isz ([]++[it]++[]))) ⟨a,k,v,r,h,[]++[it]++[]⟩).1 (chg (true=true∧(255 < ([]++[it]++[]:List ByteArray).length∨512 < 20+h.size+isz ([]++[it]++[]))) ⟨a,k,v,r,h,[]++[it]++[]⟩).2):=fun _=>by
      cases ao with
      | none=>
        have e3:=hF.nil rfl
        subst e3
        exact yput_none w a k v r h it hit hh
      | some A=>exact yput_emp w a k v r h A cp hF.big it hit hh
    have hx:=key (fun _ _=>True)
    rw [chg_same (c':=255 < ([it]:List ByteArray).length∨512 < 20+h.size+isz [it]) ⟨fun q=>q.2,fun q=>⟨rfl,q⟩⟩ rfl] at hx
    exact hx
  · obtain ⟨o,e,_⟩:=hS.at_ (by omega)
    subst e
    have hx:=yput_some w a k v r h B B o cp l n it hit hS hF hh (by omega) hlm
    rw [show l.take n++[it]++l.drop n=l.take n++it :: l.drop n by simp] at hx
    rw [chg_same (c':=255 < (l.take n++it :: l.drop n).length∨512 < 20+h.size+isz (l.take n++it :: l.drop n)) ⟨fun q=>q.2,fun q=>⟨rfl,q⟩⟩ rfl] at hx
    exact hx
theorem two_new (w:World) (v0 v1 v2 v3 v4 v5:Value):Pag ((w.alloc (.cells #[v0,v1,v2,v3,v4,v5] 24)).alloc (.cells #[.int .i64 0,.int .i64 0,.int .i64 0,.int .i64 0,.string ⟨#[]⟩,.slice none 0 0] 24)) w.heap.size v0 v1 v2 v3 v4 v5∧Pag ((w.alloc (.cells #[v0,v1,v2,v3,v4,v5] 24)).alloc (.cells #[.int .i64 0,.int .i64 0,.int .i64 0,.int .i64 0,.string ⟨#[]⟩,.slice none 0 0] 24)) (w.heap.size+1) (.int .i64 0) (.int .i64 0) (.int .i64 0) (.int .i64 0) (.string ⟨#[]⟩) (.slice none 0 0)∧Only (fun _=>False) w ((w.alloc (.cells #[v0,v1,v2,v3,v4,v5] 24)).alloc (.cells #[.int .i64 0,.int .i64 0,.int .i64 0,.int .i64 0,.string ⟨#[]⟩,.slice none 0 0] 24)):=by
  refine ⟨(Pag.new w v0 v1 v2 v3 v4 v5).more (onlyA _ _),?_,o2 (onlyA _ _) (onlyA _ _)⟩
  have e1:=Pag.new (w.alloc (.cells #[v0,v1,v2,v3,v4,v5] 24)) (.int .i64 0) (.int .i64 0) (.int .i64 0) (.int .i64 0) (.string ⟨#[]⟩) (.slice none 0 0)
  rw [World.size_alloc] at e1
  exact e1
set_option maxHeartbeats 1600000 in
theorem fput_at (w:World) (a k v r:Int) (h:ByteArray) (B cp:Nat) (ao:Option Addr) (l:List ByteArray) (n:Nat) (it:ByteArray) (hS:Strs w B ao l) (hF:Fit ao l.length cp) (hh:h.size≤140737488355328) (hit:it.size≤140737488355328) (hn:n≤l.length) (hlm:l.length≤8796093021952) :
    Calls Tryz.prog 89 #[.agg #[.int .i64 a,.int .i64 k,.int .i64 v,.int .i64 r,.string h,.slice ao l.length cp],.int .i64 (n:Int),.string it] w fun e w'=>Or3 w w' e (255 < (l.take n++it :: l.drop n).length∨512 < 20+h.size+isz (l.take n++it :: l.drop n)) ⟨a,k,v,r,h,l.take n++it :: l.drop n⟩:=by
  have HX:=hide (two_new w (.int .i64 a) (.int .i64 k) (.int .i64 v) (.int .i64 r) (.string h) (.slice ao l.length cp))
  have HPT:=hide ((yput_at _ a k v r h B cp ao l n it (hS.more HX.out.2.2) hF hh hit hn hlm).mono (fun x w' hq=>hq.any))
  obtain ⟨m,hm⟩:=exq (l.length)
  rw [hm] at HX HPT ⊢
  clear hm hS hF hh hit hn hlm
  go_enter Tryz.func89,Tryz.ntmps89
  go_upto_region 1 with fail
  obtain ⟨W0,hW0⟩:=exq ((w.alloc (.cells #[.int .i64 a,.int .i64 k,.int .i64 v,.int .i64 r,.string h,.slice ao m cp] 24)).alloc (.cells #[.int .i64 0,.int .i64 0,.int .i64 0,.int .i64 0,.string ⟨#[]⟩,.slice none 0 0] 24))
  rw [hW0] at HX HPT ⊢
  clear hW0
  obtain ⟨p0,p1,p2,p3,p4,p5,_⟩:=HX.out.1
  go_wp2_with fail
  refine HPT.out.mono ?_
  rintro x x2 ⟨p,c,⟨B5,ao5,cp5,rfl,hS5,hF5,ho5,hB5⟩,hpk⟩
  have HX2:=hide ho5
  have HS7:=hide (And.intro hS5 (And.intro hF5 hB5))
  have HPK:=hide hpk
  have HQ7:=hide (HX.out.2.1.more ho5)
  have HZ7:Hid (w.heap.size+1 < W0.heap.size):=HX.out.2.1.lt
  clear hS5 hF5 ho5 hB5 hpk p0 p1 p2 p3 p4 p5 HPT
  obtain ⟨q0,q1,q2,q3,q4,q5,g0,g1,g2,g3,g4,g5,ql⟩:=HQ7.out
  go_wp2_with fail
  refine bodyPost_ret (results_page rfl rfl (Pag.six HQ7.out _ _ _ _ _ _)) rfl ?_
  have hres:=resSix (k:=c) HS7.out.1 HS7.out.2.1 HX2.out HS7.out.2.2 HX.out.2.2 (w.heap.size+1) (by omega) HZ7.out (.int .i64 p.lsn) (.int .i64 p.kind) (.int .i64 p.level) (.int .i64 p.right) (.string p.high) (.slice ao5 p.items.length cp5)
  rcases HPK.out with ⟨k1,rfl,rfl⟩ | ⟨k1,rfl,rfl⟩
  · exact Or3.yes k1 hres
  · exact Or3.no k1 hres
end Go.Proofs.YtipkeeobmihogaaGreat
namespace Go.Proofs.YtipkeeobmihogaaGreat
open Go.RowKit
theorem ch_new (w:World) (v0 v1 v2 v3 v4 v5:Value) (r:Br):Pag (((w.alloc (.cells #[v0,v1,v2,v3,v4,v5] 24)).alloc (.cells r.cells 36)).alloc (.cells #[.int .i64 0,.int .i64 0,.int .i64 0,.int .i64 0,.string ⟨#[]⟩,.slice none 0 0] 24)) w.heap.size v0 v1 v2 v3 v4 v5∧Rg (((w.alloc (.cells #[v0,v1,v2,v3,v4,v5] 24)).alloc (.cells r.cells 36)).alloc (.cells #[.int .i64 0,.int .i64 0,.int .i64 0,.int .i64 0,.string ⟨#[]⟩,.slice none 0 0] 24)) (w.heap.size+1) 0 r.cl∧Pag (((w.alloc (.cells #[v0,v1,v2,v3,v4,v5] 24)).alloc (.cells r.cells 36)).alloc (.cells #[.int .i64 0,.int .i64 0,.int .i64 0,.int .i64 0,.string ⟨#[]⟩,.slice none 0 0] 24)) (w.heap.size+1+1) (.int .i64 0) (.int .i64 0) (.int .i64 0) (.int .i64 0) (.string ⟨#[]⟩) (.slice none 0 0)∧Only (fun _=>False) w (((w.alloc (.cells #[v0,v1,v2,v3,v4,v5] 24)).alloc (.cells r.cells 36)).alloc (.cells #[.int .i64 0,.int .i64 0,.int .i64 0,.int .i64 0,.string ⟨#[]⟩,.slice none 0 0] 24)):=by
  refine ⟨(Pag.new w v0 v1 v2 v3 v4 v5).more (o2 (onlyA _ _) (onlyA _ _)),?_,?_,o2 (o2 (onlyA _ _) (onlyA _ _)) (onlyA _ _)⟩
  · have e1:=(Rg.new (w.alloc (.cells #[v0,v1,v2,v3,v4,v5] 24)) r.cells 36).more (onlyA _ (.cells #[.int .i64 0,.int .i64 0,.int .i64 0,.int .i64 0,.string ⟨#[]⟩,.slice none 0 0] 24))
    rw [World.size_alloc] at e1
    exact e1
  · have e1:=Pag.new ((w.alloc (.cells #[v0,v1,v2,v3,v4,v5] 24)).alloc (.cells r.cells 36)) (.int .i64 0) (.int .i64 0) (.int .i64 0) (.int .i64 0) (.string ⟨#[]⟩) (.slice none 0 0)
    rw [World.size_alloc,World.size_alloc] at e1
    exact e1
set_option maxHeartbeats 3200000 in
theorem changed_leaf (w:World) (page:Int) (X:Nd) (e:En) (k:Int) (B cp:Nat) (ao:Option Addr) (hG:Gd X) (hS:Strs w B ao X.items) (hF:Fit ao X.items.length cp) (hv:X.lv=0) (hb:¬ X.bad e) (hz:(X.ins e k).size≤512) :
    Calls Tryz.prog 30 #[.agg #[.int .i64 0,.int .i64 3,.int .i64 0,.int .i64 X.rt,.string (hiB X.hi),.slice ao X.items.length cp],.agg (Br.cells ⟨3,page,e.enc,none,0,0⟩)] w fun x w'=>Res w w' x ((X.ins e k).pg 0) 0:=by
  have HX:=hide (ch_new w (.int .i64 0) (.int .i64 3) (.int .i64 0) (.int .i64 X.rt) (.string (hiB X.hi)) (.slice ao X.items.length cp) ⟨3,page,e.enc,none,0,0⟩)
  have he:e.ok=true:=(Nd.good hb).1
  have HD:Hid (∀ W,Calls Tryz.prog 24 #[.string e.enc] W fun x w'=>x=.returned (.tuple #[.agg #[.string e.key,.int .i64 e.page,.int .i64 e.slot],.int .i64 0])∧Only (fun _=>False) W w'):=fun W=>by
    have h:=decode_any e.enc W
    rw [show decE (bl e.enc)=some e from decE_lay he] at h
    exact h
  have HC:Hid (∀ W,Only (fun _=>False) w W→Calls Tryz.prog 39 #[.agg #[.int .i64 0,.int .i64 3,.int .i64 0,.int .i64 X.rt,.string (hiB X.hi),.slice ao X.items.length cp],.agg #[.string e.key,.int .i64 e.page,.int .i64 e.slot]] W fun x w'=>Res W w' x ((X.ins e k).pg 0) 0):=fun W ho=>by
    have hn:=hG.nm (hS.more ho)
    have h:=insert_ok W 0 X.rt (hiB X.hi) X.hi e B cp ao X.items X.es (hn.lp hv) hF
    exact h.mono (fun x w' q=>((InsQ.wi (c:=k) hv hn.few q).2 hb).2 (by omega))
  clear hG hS hF hv hb hz  he
  obtain ⟨P,hP⟩:=exq (((X.ins e k).pg 0))
  rw [hP] at HC ⊢
  obtain ⟨D,hD⟩:=exq (e.enc)
  rw [hD] at HX HD ⊢
  obtain ⟨R,hR⟩:=exq ((X.rt:Int))
  obtain ⟨h,hh⟩:=exq (hiB X.hi)
  obtain ⟨n,hn⟩:=exq (X.items.length)
  rw [hR,hh,hn] at HX HC ⊢
  clear hP hD hR hh hn
  unfold Br.cells at HX ⊢
  simp only [] at HX ⊢
  go_enter Tryz.func30,Tryz.ntmps30
  go_upto_region 1 with fail
  obtain ⟨W0,hW0⟩:=exq (((w.alloc (.cells #[.int .i64 0,.int .i64 3,.int .i64 0,.int .i64 R,.string h,.slice ao n cp] 24)).alloc (.cells #[.int .i64 0,.int .i64 0,.int .i64 0,.int .u8 3,.int .i64 0,.int .i64 page,.int .i64 0,.int .i64 0,.int .i64 0,.int .i64 0,.string D,.slice Option.none 0 0,.slice Option.none 0 0,.slice none 0 0,.slice Option.none 0 0,.slice Option.none 0 0] 36)).alloc (.cells #[.int .i64 0,.int .i64 0,.int .i64 0,.int .i64 0,.string ⟨#[]⟩,.slice none 0 0] 24))
  rw [hW0] at HX ⊢
  clear hW0
  obtain ⟨p0,p1,p2,p3,p4,p5,_⟩:=HX.out.1
  have c3:=HX.out.2.1.cell 3 (.int .u8 3) rfl
  have c10:=HX.out.2.1.cell 10 (.string D) rfl
  rw [Nat.zero_add] at c3 c10
  go_wp2_with fail
  refine (HD.out _).mono ?_
  rintro x w1 ⟨rfl,ho⟩
  have HP1:=hide (HX.out.1.more ho)
  have HR1:=hide (HX.out.2.1.more ho)
  have HQ1:=hide (HX.out.2.2.1.more ho)
  have HO1:=hide (o2 HX.out.2.2.2 ho)
  clear ho p0 p1 p2 p3 p4 p5 c3 c10 HX HD
  go_upto_region 7 with fail
  have HA:=hide (onlyA w1 (.cells #[.string e.key,.int .i64 e.page,.int .i64 e.slot] 41))
  have HV:=hide (Ev.new w1 e)
  obtain ⟨cb,hcb⟩:=exq (w1.heap.size)
  rw [hcb] at HV ⊢
  clear hcb
  obtain ⟨w2,hw2⟩:=exq (w1.alloc (.cells #[.string e.key,.int .i64 e.page,.int .i64 e.slot] 41))
  rw [hw2] at HA HV ⊢
  clear hw2
  have HP2:=hide (HP1.out.more HA.out)
  have HR2:=hide (HR1.out.more HA.out)
  have HQ2:=hide (HQ1.out.more HA.out)
  have HO2:=hide (o2 HO1.out HA.out)
  clear HA HP1 HR1 HQ1 HO1
  obtain ⟨p0,p1,p2,p3,p4,p5,_⟩:=HP2.out
  obtain ⟨d0,d1,d2,_⟩:=HV.out
  have c3:=HR2.out.cell 3 (.int .u8 3) rfl
  rw [Nat.zero_add] at c3
  go_wp2_with fail
  refine (HC.out _ HO2.out).mono ?_
  rintro x w4 ⟨B5,ao5,cp5,rfl,hS5,hF5,ho5,hB5⟩
  have HX2:=hide ho5
  have HS7:=hide (And.intro hS5 (And.intro hF5 hB5))
  have HQ7:=hide (HQ2.out.more ho5)
  have HZ7:Hid (w.heap.size+1+1 < w2.heap.size):=HQ2.out.lt
  clear hS5 hF5 ho5 hB5 p0 p1 p2 p3 p4 p5 d0 d1 d2 c3
  obtain ⟨q0,q1,q2,q3,q4,q5,g0,g1,g2,g3,g4,g5,ql⟩:=HQ7.out
  go_wp2_with fail
  refine bodyPost_ret (results_page rfl rfl (Pag.six HQ7.out _ _ _ _ _ _)) rfl ?_
  exact resSix (p:=P) (k:=0) HS7.out.1 HS7.out.2.1 HX2.out HS7.out.2.2 HO2.out (w.heap.size+1+1) (by omega) HZ7.out _ _ _ _ _ _
end Go.Proofs.YtipkeeobmihogaaGreat
namespace Go.Proofs.YtipkeeobmihogaaGreat
open Go.RowKit
variable {K:Nat→Prop}
theorem yieldsIf_load_br {ops:Array Oper} {S:World→Prop} {op:Oper} {a:Act} {r:Br} (hw:Region.wanted op (yielded ops a.tmps)=true) (x:Operand) (ho:op.op=.load 36 x)
    {b:Nat} (hx:a.eval x=.pointer (some ⟨b,0,none⟩)) (hS:∀ w,S w→Rg w b 0 r.cl):YieldsIf Tryz.prog ops S op (.agg r.cells) a :=
  .inl ⟨hw,fun w hw'=>by
    unfold execOp
    simp only [ho,hx,Instr.loadAt,Instr.sureAddr,Sem.run_bind,Sem.run_pure,Result.andThen_ok,load_br (hS w hw')]⟩
theorem ld_images {w:World} {p:Addr} {v:Value} (h:w.cell? p=some v):(loadVar 32 p).run Tryz.prog w=.ok v w:=by simp [loadVar,go_sem,h]
structure Its (w:World) (B:Nat) (ao:Option Addr) (l:List Int):Prop where
  at_:0 < l.length→∃ o,ao=some ⟨B,o,none⟩∧∀ j (h:j < l.length),w.cell? ⟨B,o+j,none⟩=some (.int .i64 l[j])
  lt:0 < l.length→B < w.heap.size
theorem Its.kept {S:Nat→Prop} {w w':World} {B:Nat} {ao:Option Addr} {l:List Int} (h:Its w B ao l) (ho:Only S w w') (hS:0 < l.length→¬ S B):Its w' B ao l:=by
  refine ⟨fun h0=>?_,fun h0=>Nat.lt_of_lt_of_le (h.lt h0) ho.size⟩
  obtain ⟨o,h1,h2⟩:=h.at_ h0
  exact ⟨o,h1,fun j hj=>(ho.cell (p:=⟨B,o+j,none⟩) (h.lt h0) (hS h0)).trans (h2 j hj)⟩
set_option maxHeartbeats 800000 in
theorem zints_any (w:World) (B B' cp cp':Nat) (ao ao':Option Addr) (l l':List Int) (h:Zs w B ao l) (h':Zs w B' ao' l') :
    Calls Tryz.prog 26 #[.slice ao l.length cp,.slice ao' l'.length cp'] w fun e w'=>RB e (l=l')∧Only (fun _=>False) w w':=by
  have hlen:=h.len
  have hlen':=h'.len
  have HS:=hide h
  have HS':=hide h'
  clear h h'
  by_cases hn:l.length=l'.length
  · have hb:((l.length:Int) != (l'.length:Int))=false:=by simp; omega
    go_enter Tryz.func26,Tryz.ntmps26
    go_wp2_with fail
    go_loopw [5] (fun y wr=>∃ j:Nat,j≤l.length∧y=.int .i64 (j:Int)∧Hid (l.take j=l'.take j)∧Hid (Only (fun _=>False) w wr)) (fun y _=>l.length - (intOf y).toNat)
    case atStart=>exact ⟨0,by omega,rfl,rfl,Only.refl _ _⟩
    case round=>
      obtain ⟨j,hj,rfl,HQ,HO⟩:=hrel
      by_cases hlt:j < l.length
      · have hlt':j < l'.length:=by omega
        obtain ⟨o,e1,c1⟩:=(HS.out.more HO.out).at_ (by omega)
        obtain ⟨o',e1',c1'⟩:=(HS'.out.more HO.out).at_ (by omega)
        have k1:=c1 j hlt
        have k1':=c1' j hlt'
        have hj1:(j:Int) < (l.length:Int):=by omega
        have hj1':(j:Int) < (l'.length:Int):=by omega
        obtain ⟨z,hz⟩:=exq (l[j])
        obtain ⟨z',hz'⟩:=exq (l'[j])
        have HT:Hid (l.take (j+1)=l.take j++[z]):=by unfold Hid; rw [List.take_succ_eq_append_getElem hlt,hz]
        have HT':Hid (l'.take (j+1)=l'.take j++[z']):=by unfold Hid; rw [List.take_succ_eq_append_getElem hlt',hz']
        rw [hz] at k1
        rw [hz'] at k1'
        have HZ:=hide hz
        have HZ':=hide hz'
        clear c1 c1' hz hz'
        subst e1
        subst e1'
        by_cases hzz:z=z'
        · have HF:Hid (l.take (j+1)=l'.take (j+1)):=by unfold Hid; rw [HT.out,HT'.out,HQ.out,hzz]
          subst hzz
          go_wp2_with fail
          go_region
          go_wp2_with fail
          go_roundw
          case rel=>exact ⟨j+1,by omega,by go_num,HF,o2 HO.out (Only.drew _ _)⟩
          case measure=>simp [intOf]; omega
        · have HF:Hid (¬ l=l'):=fun h=>hzz (by rw [← HZ.out,← HZ'.out]; simp [h])
          have hx:(z != z')=true:=by simpa using hzz
          clear hzz
          go_wp2_with fail
          go_region
          go_wp2_with fail
          go_ret
          exact ⟨RB.no HF.out,o2 HO.out (Only.drew _ _)⟩
      · have e:l.take j=l:=List.take_of_length_le (by omega)
        have e':l'.take j=l':=List.take_of_length_le (by omega)
        rw [e,e'] at HQ
        go_wp2_with fail
        go_ret
        exact ⟨RB.yes HQ.out,HO.out⟩
  · have hb:((l.length:Int) != (l'.length:Int))=true:=by simp; omega
    go_enter Tryz.func26,Tryz.ntmps26
    go_wp2_with fail
    go_ret
    exact ⟨RB.no (fun h=>hn (by rw [h])),Only.refl _ _⟩
end Go.Proofs.YtipkeeobmihogaaGreat
