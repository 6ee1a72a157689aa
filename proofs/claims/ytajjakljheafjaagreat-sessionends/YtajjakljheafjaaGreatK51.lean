/- Parts. -/
import Derived.Test.YtajjakljheafjaaGreatK50
set_option maxRecDepth 100000
namespace Go.Proofs.YtajjakljheafjaaGreat
open Go.RowKit
structure Ed where
  bA:Nat
  aA:Option Addr
  cA:Nat
  A:List Sh
  e:Int
  bB:Nat
  aB:Option Addr
  cB:Nat
  B:List Sh
def Ed.cl (E:Ed):List Value:=[.slice E.aA E.A.length E.cA,.int .i64 E.e,.slice E.aB E.B.length E.cB]
structure EdO (w:World) (E:Ed):Prop where
  A:Shs w E.bA E.aA E.A
  B:Shs w E.bB E.aB E.B
theorem Tryz.sizeShowF:(Tryz.prog.info? 44).map (·.size)=some 22:=by kernel_rfl
theorem ld_shows {w:World} {p:Addr} {v:Value} (h:w.cell? p=some v):(loadVar 25 p).run Tryz.prog w=.ok v w:=by simp [loadVar,go_sem,h]
theorem show_allS {S:Nat→Prop} {w W:World} {B at_:Nat} {s:Sh} (h:w.rangeAt B at_ s.cl) (ho:Only S w W) (hl:B < w.heap.size) (hS:¬ S B):W.rangeAt B at_ s.cl:=fun i v hv=>(ho.cell (p:=⟨B,at_+i,none⟩) hl hS).trans (h i v hv)
theorem yieldsIf_load_shw {ops:Array Oper} {S:World→Prop} {op:Oper} {a:Act} {s:Sh} (hw:Region.wanted op (yielded ops a.tmps)=true) (x:Operand) (ho:op.op=.load 44 x)
    {b o:Nat} (hx:a.eval x=.pointer (some ⟨b,o,none⟩)) (hS:∀ w,S w→w.rangeAt b o s.cl):YieldsIf Tryz.prog ops S op (.agg s.cl.toArray) a :=
  yieldsIf_load_mid hw 44 x ho b o hx s.cl _ hS Tryz.underlying44 rfl Tryz.sizeShowF
theorem yieldsIf_load_repF {ops:Array Oper} {S:World→Prop} {op:Oper} {a:Act} {v0 v1 v2 v3:Value} (hw:Region.wanted op (yielded ops a.tmps)=true) (x:Operand) (ho:op.op=.load 55 x)
    {b:Nat} (hx:a.eval x=.pointer (some ⟨b,0,none⟩)) (hS:∀ w,S w→Cb w b [v0,v1,v2,v3]):YieldsIf Tryz.prog ops S op (.agg #[v0,v1,v2,v3]) a :=
  yieldsIf_load_mid hw 55 x ho b 0 hx [v0,v1,v2,v3] _ (fun w h=>(hS w h).rg.range) Tryz.underlying55 rfl Tryz.sizeReply
section
variable {ops:Array Oper} {rest:List Oper} {o:Oper} {a:Act} {w:World} {Q:Exit→Act→World→Prop}
theorem wpList_load_shw (hg:o.guard=none) (x:Operand) (hop:o.op=.load 44 x) (b f:Nat) (hx:a.eval x=.pointer (some ⟨b,f,none⟩)) (s:Sh) (hc:w.rangeAt b f s.cl)
    (h:wpList Tryz.prog ops Q rest (a.put o.dst (.agg s.cl.toArray)) w):wpList Tryz.prog ops Q (o :: rest) a w :=
  wpList_load_mid hg 44 x hop b f hx s.cl _ hc Tryz.underlying44 rfl Tryz.sizeShowF h
end
theorem fl_O {P:Pn} (h:EndI P) (e:Int):Ovd (P.fl e):=by
  unfold Pn.fl
  by_cases q:P.wk=4
  · rw [if_pos q]
    rcases h with h | ⟨_,h | h | h⟩
    · exact h
    · rw [q] at h; exact absurd h (by decide)
    · rw [q] at h; exact absurd h (by decide)
    · rw [q] at h; exact absurd h.1 (by decide)
  · rw [if_neg q]
    exact ⟨rfl,rfl,rfl,rfl,Nat.zero_le _⟩
theorem TlR.over {w w':World} {Z:Nat→Prop} {p:Nat} {P:Pn} {x:Ending} (h:TlR w Z p P x w') (hk:P.wk=4):∃ Z',x=.returned (.bool false)∧(∀ b,b < w.heap.size→Z' b→Z b)∧Pm w' Z' p P∧Only Z w w':=by
  obtain ⟨Z',P',is,h1,h2,h3,h4,_,h6⟩:=h
  obtain ⟨e1,e2⟩:=h6 hk
  rw [e1] at h1
  rw [e2] at h3
  exact ⟨Z',h1,h2,h3,h4⟩
set_option maxHeartbeats 6400000 in
theorem ends_law (w:World) (a:Aq) (own:Int) (E:Ed) (hE:EdO w E) (hown:I64 own) :
    Calls Tryz.prog 4 #[.agg a.ar,.int .i64 own,.agg E.cl.toArray] w fun x w'=>x=.returned (.bool true)∧Only (fun _=>False) w w':=by
  have HB:=hide ((Cb.new w a.ar.toList 24).more (onlyA (w.alloc (.cells a.ar 24)) (.cells E.cl.toArray 59)))
  have HEC:=hide (Cb.new (w.alloc (.cells a.ar 24)) E.cl 59)
  rw [World.size_alloc] at HEC
  have HO:=hide (o2 (onlyA w (.cells a.ar 24)) (onlyA (w.alloc (.cells a.ar 24)) (.cells E.cl.toArray 59)))
  have HSA:=hide (hE.A.kept HO.out (fun _ e=>e.elim))
  have HSB:=hide (hE.B.kept HO.out (fun _ e=>e.elim))
  have hlenA:=hE.A.len
  have hlenB:=hE.B.len
  have HNN:=hide (fun W=>New_no W a own)
  have HNO:=hide (fun W=>New_ok W a own)
  have HOWN:=hide hown
  clear hE hown
  unfold Aq.ar at *
  obtain ⟨W0,hW0⟩:=exq ((w.alloc (.cells #[.int .u8 a.c,.string a.key,.string a.tok,.string a.val,.int .i64 a.n] 24)).alloc (.cells E.cl.toArray 59))
  have HB:Hid (Cb W0 w.heap.size [.int .u8 a.c,.string a.key,.string a.tok,.string a.val,.int .i64 a.n]):=by rw [← hW0]; exact HB.out
  have HEC:Hid (Cb W0 (w.heap.size+1) E.cl):=by rw [← hW0]; exact HEC.out
  rw [hW0] at HO HSA HSB
  have HW0:=hide hW0
  clear hW0
  obtain ⟨N,hN⟩:=exq (W0.heap.size)
  have HN:=hide hN
  have HNE:Hid (w.heap.size+1 < N):=by rw [← hN]; exact HEC.out.lt
  clear hN
  unfold Ed.cl at HEC HW0 ⊢
  have a0:=HB.out.c 0 _ rfl
  have a1:=HB.out.c 1 _ rfl
  have a2:=HB.out.c 2 _ rfl
  have a3:=HB.out.c 3 _ rfl
  have a4:=HB.out.c 4 _ rfl
  cases hk:a.ok own
  · have HNQ:=hide (HNN.out W0 hk)
    clear HNN HNO hk HSA HSB
    go_enter Tryz.func4,Tryz.ntmps4
    go_upto_region 1 with fail
    rw [HW0.out]
    clear HW0
    go_wp2_with fail
    refine HNQ.out.mono ?_
    rintro x w1 ⟨rfl,ho⟩
    have HO1:=hide (o2 HO.out ho)
    clear ho HNQ a0 a1 a2 a3 a4
    go_wp2_with fail
    refine (lwawake_any w1).mono ?_
    rintro x w2 ⟨rfl,ho⟩
    have HO2:=hide (o2 HO1.out ho)
    clear ho
    go_wp2_with fail
    go_ret
    exact ⟨rfl,HO2.out⟩
  · have HNQ:=hide (HNO.out W0 hk)
    have HEI:=hide (begun_E HOWN.out hk)
    obtain ⟨P0,hP0⟩:=exq (Pn.begun a own)
    rw [hP0] at HNQ HEI
    clear HNN HNO hk hP0
    go_enter Tryz.func4,Tryz.ntmps4
    go_upto_region 1 with fail
    rw [HW0.out]
    clear HW0
    go_wp2_with fail
    refine HNQ.out.mono ?_
    rintro x w1 ⟨p,hpn,rfl,hp,ho⟩
    have HP1:=hide hp
    have HO1:=hide (o2 HO.out ho)
    have HEC1:=hide (HEC.out.more ho)
    have HX1:=hide ho
    have HPN:Hid (N≤p):=by have:=HN.out; show N≤p; omega
    have HN1:Hid (N≤w1.heap.size):=by have:=HN.out; have:=ho.size; show N≤w1.heap.size; omega
    clear hp hpn ho HNQ a0 a1 a2 a3 a4 HO HB HEC
    go_wp2_with fail
    go_loopw [9] (fun y wr=>∃ (j:Nat),j≤E.A.length∧y=.int .i64 (j:Int)∧∃ Z P,Hid (Pm wr Z p P)∧Hid (EndI P)∧Hid (∀ b,Z b→N≤b)∧Hid (Only (fun k=>N≤k) w1 wr)) (fun y _=>E.A.length - (intOf y).toNat)
    case atStart=>exact ⟨0,by omega,rfl,_,_,HP1,HEI,(fun b e=>by have q:b=p:=e; rw [q]; exact HPN.out),hide (Only.refl _ _)⟩
    case round=>
      obtain ⟨j,hj,rfl,Z,P,HP,HRD,HZN,HOW⟩:=hrel
      have HEC2:=hide (HEC1.out.kept HOW.out (fun e=>by have q:N≤w.heap.size+1:=e; have:=HNE.out; omega))
      have e0:=HEC2.out.c 0 _ rfl
      have e1:=HEC2.out.c 1 _ rfl
      have e2:=HEC2.out.c 2 _ rfl
      by_cases hlt:j < E.A.length
      · have HOX:Hid (Only (fun k=>N≤k) W0 wr):=(HX1.out.mono (fun _ _ e=>e.elim)).trans HOW.out (fun _ _ e=>e)
        have HSR:=hide (HSA.out.kept HOX.out (fun b e=>by have:=HN.out; have q:N≤b:=e; omega))
        obtain ⟨o,hao,hcell⟩:=HSR.out.at_ (by omega)
        have HRG:=hide (hcell j hlt)
        have HSO:=hide (HSR.out.each _ (List.getElem_mem hlt))
        have HSL:=hide ((HSA.out.each _ (List.getElem_mem hlt)).low)
        obtain ⟨s,hs⟩:=exq (E.A[j])
        rw [hs] at HRG HSO HSL
        rw [hao] at e0
        clear hs hcell HSR hao
        have hj0:(0:Int)≤(j:Int):=by omega
        have hj1:(j:Int) < (E.A.length:Int):=by omega
        have HTL:=hide (tell_law wr Z p P HP.out HRD.out s _ HSO.out HSL.out (fun b hb=>by have:=HN.out; have:=HZN.out b hb; omega))
        go_wp2_with (refine wpList_load_shw rfl (.tmp 40) rfl E.bA (o+j * 22) rfl s HRG.out ?_; go_frame)
        refine HTL.out.mono ?_
        rintro x w4 ⟨Z2,P2,is,rfl,hz2,hp2,ho2,he2,hw2⟩
        have HP5:=hide hp2
        have HR5:=hide he2
        have HN5:Hid (∀ b,Z2 b→N≤b):=fun b hb=>by
          by_cases q:b < wr.heap.size
          · exact HZN.out b (hz2 b q hb)
          · have:=HN1.out; have:=HOW.out.size; omega
        have HO5:Hid (Only (fun k=>N≤k) w1 w4):=HOW.out.trans ho2 (fun i _ e=>HZN.out i e)
        clear hz2 hp2 ho2 he2 hw2 HTL e0 e1 e2
        go_wp2_with fail
        go_roundw
        case rel=>exact ⟨j+1,by omega,by go_num,Z2,P2,HP5,HR5,HN5,HO5⟩
        case measure=>simp [intOf]; omega
      · have HFL:=hide (Fail_any wr Z p P HP.out E.e)
        have HOV:=hide (fl_O HRD.out E.e)
        go_wp2_with fail
        refine HFL.out.mono ?_
        rintro x w2 ⟨rfl,hp,ho⟩
        have HP2:=hide hp
        have HO2:Hid (Only (fun k=>N≤k) w1 w2):=HOW.out.trans ho (fun i _ e=>by rw [e]; exact HPN.out)
        clear hp ho HFL HP HOW e0 e1 e2 HEC2 HRD
        obtain ⟨P1,hP1⟩:=exq (P.fl E.e)
        rw [hP1] at HP2 HOV
        clear hP1
        have HRP0:=hide (Reply_over w2 Z p P1 HP2.out HOV.out.1 (by have:=HOV.out.2.2.2.2; omega))
        have hrl:=HOV.out.2.2.2.2
        have HRP:Hid (∀ W Z,Pm W Z p P1→Calls Tryz.prog 13 #[.pointer (some ⟨p,0,none⟩)] W fun x w'=>∃ a4 c4,x=.returned (.agg #[.int .i64 P1.err,.bool P1.found,.string P1.val,.slice a4 P1.rows.length c4])∧Rws w' a4 P1.rows∧Only (fun _=>False) W w'):=fun W Z h=>(Reply_over W Z p P1 h HOV.out.1 (by have:=HOV.out.2.2.2.2; omega)).mono (fun x w' q=>by
          obtain ⟨a4,c4,q1,q2,_,q4⟩:=q
          exact ⟨a4,c4,q1,q2,q4⟩)
        have HWT:Hid (∀ W Z,Pm W Z p P1→Calls Tryz.prog 10 #[.pointer (some ⟨p,0,none⟩)] W fun x w'=>x=.returned (.agg #[.int .i64 4,.string ⟨#[]⟩,.int .i64 0,.int .i64 0])∧Only (fun _=>False) W w'):=fun W Z h=>by
          have q:=Want_any W Z p P1 h
          unfold Pn.want at q
          rw [HOV.out.1,HOV.out.2.1,HOV.out.2.2.1,HOV.out.2.2.2.1] at q
          exact q
        have HRQ:Hid (∀ W a4 a1 c4 c1,Rws W a4 P1.rows→Rws W a1 P1.rows→Calls Tryz.prog 16 #[.agg #[.int .i64 P1.err,.bool P1.found,.string P1.val,.slice a4 P1.rows.length c4],.agg #[.int .i64 P1.err,.bool P1.found,.string P1.val,.slice a1 P1.rows.length c1]] W fun x w'=>x=.returned (.bool true)∧Only (fun _=>False) W w'):=fun W a4 a1 c4 c1 h4 h1=>reply_eq W P1.err P1.found P1.val a4 a1 c4 c1 P1.rows h4 h1 (by have:=HOV.out.2.2.2.2; omega)
        have HK4:Hid (P1.wk=4):=HOV.out.1
        have HOVR:=HOV
        clear HOV
        obtain ⟨er,her⟩:=exq (P1.err)
        obtain ⟨fd,hfd⟩:=exq (P1.found)
        obtain ⟨vl,hvl⟩:=exq (P1.val)
        obtain ⟨rn,hrn⟩:=exq (P1.rows.length)
        rw [her,hfd,hvl,hrn] at HRP HRQ
        unfold ClR Pn.rep at HRP0
        rw [her,hfd,hvl,hrn] at HRP0
        clear her hfd hvl hrn
        go_wp2_with fail
        refine HRP0.out.mono ?_
        rintro x w3 ⟨a1,c1,rfl,hr1,hg1,ho3⟩
        have HR0:=hide hr1
        have HG0:=hide hg1
        have HP3:=hide (HP2.out.more ho3)
        have HO3:Hid (Only (fun k=>N≤k) w1 w3):=HO2.out.trans ho3 (fun _ _ e=>e.elim)
        have HX3:=hide ho3
        have HZ2:=hide HP2.out.zlt
        clear hr1 hg1 ho3 HRP0 HO2 HP2
        have HRB:=hide (Cb.new w3 [.int .i64 0,.bool false,.string ⟨#[]⟩,.slice none 0 0] 55)
        have HRO:=hide (onlyA w3 (.cells #[.int .i64 0,.bool false,.string ⟨#[]⟩,.slice none 0 0] 55))
        go_upto_region 10 with (refine wpList_put_cb rfl 55 (.tmp 10) (.tmp 48) (by rfl) w3.heap.size (by rfl) [.int .i64 0,.bool false,.string ⟨#[]⟩,.slice none 0 0] [.int .i64 er,.bool fd,.string vl,.slice a1 rn c1] (by rfl) (by exact Tryz.sizeReply) (by rfl) (by rfl) HRB.out ?_; intro W4 HW4; go_frame)
        have HX4:Hid (Only (fun _=>False) w3 W4):=HRO.out.trans HW4.out.2 (fun i hi e=>by have q:i=w3.heap.size:=e; omega)
        have HP4:=hide (HP3.out.more HX4.out)
        have HO4:Hid (Only (fun k=>N≤k) w1 W4):=HO3.out.trans HX4.out (fun _ _ e=>e.elim)
        have HRC0:=hide HW4.out.1
        have HR1:=hide (HR0.out.more HX4.out)
        obtain ⟨b10,hb10⟩:=exq (w3.heap.size)
        rw [hb10] at HRC0 ⊢
        have HB10:=hide hb10
        obtain ⟨KK,hKK⟩:∃ K:Nat→Prop,(fun k=>k=b10∨(0 < P1.rows.length∧a1=some ⟨k,0,none⟩))=K:=⟨_,rfl⟩
        have HKK:Hid (∀ k,KK k ↔ (k=b10∨(0 < P1.rows.length∧a1=some ⟨k,0,none⟩))):=fun k=>by rw [← hKK]
        clear hb10 hKK
        have hne:=neW_run 4 ⟨#[]⟩ 0 0
        go_wp2_with fail
        refine (HWT.out W4 Z HP4.out).mono ?_
        rintro x w5 ⟨rfl,ho5⟩
        have HP5:=hide (HP4.out.more ho5)
        have HO5:Hid (Only (fun k=>N≤k) w1 w5):=HO4.out.trans ho5 (fun _ _ e=>e.elim)
        have HRC5:=hide (HRC0.out.more ho5)
        have HR5:=hide (HR1.out.more ho5)
        have HX5:Hid (w3.heap.size≤w5.heap.size):=Nat.le_trans HX4.out.size ho5.size
        have HZ5:Hid (∀ b,Z b→N≤b∧¬ KK b):=fun b hb=>⟨HZN.out b hb,fun q=>by
          have q1:=HZ2.out b hb
          have q2:=HX3.out.size
          rcases (HKK.out b).1 q with q | q
          · have:=HB10.out; omega
          · have:=HG0.out b q.2; omega⟩
        have HK5:Hid (∀ b,KK b→b < w5.heap.size):=fun b q=>by
          rcases (HKK.out b).1 q with q | q
          · rw [q]; exact HRC5.out.lt
          · obtain ⟨g,e,hg,_⟩:=HR5.out q.1
            rw [q.2] at e
            obtain rfl:b=g:=by injection e with e; injection e
            exact hg
        clear ho5 HP4 HO4 HX4 HW4 HRO HRB HRC0 HR1 HR0 HG0 HX3 HZ2 HP3 HO3 hne HZN
        go_wp2_with fail
        go_loopw [11] (fun y wr=>∃ (j:Nat),j≤E.B.length∧y=.int .i64 (j:Int)∧∃ Z,Hid (Pm wr Z p P1)∧Hid (∀ b,Z b→N≤b∧¬ KK b)∧Hid (Only (fun k=>N≤k∧¬ KK k) w5 wr)) (fun y _=>E.B.length - (intOf y).toNat)
        case atStart=>exact ⟨0,by omega,rfl,_,HP5,HZ5,hide (Only.refl _ _)⟩
        case round=>
          obtain ⟨j,hj,rfl,Z,HP,HZN,HOW⟩:=hrel
          have HOV:Hid (Only (fun k=>N≤k) w1 wr):=HO5.out.trans HOW.out (fun _ _ e=>e.1)
          have HEC:=hide (HEC1.out.kept HOV.out (fun e=>by have q:N≤w.heap.size+1:=e; have:=HNE.out; omega))
          by_cases hlt:j < E.B.length
          · have HOX:Hid (Only (fun k=>N≤k) W0 wr):=(HX1.out.mono (fun _ _ e=>e.elim)).trans HOV.out (fun _ _ e=>e)
            have HSR:=hide (HSB.out.kept HOX.out (fun b e=>by have:=HN.out; have q:N≤b:=e; omega))
            obtain ⟨o,hao,hcell⟩:=HSR.out.at_ (by omega)
            have HRG:=hide (hcell j hlt)
            have HLT:Hid (E.bB < wr.heap.size):=HSR.out.lt (by omega)
            have HNB:Hid (¬ (N≤E.bB∧¬ KK E.bB)):=fun q=>by have:=HSB.out.lt (by omega); have:=HN.out; omega
            have HNQ:Hid (¬ (N≤w.heap.size+1∧¬ KK (w.heap.size+1))):=fun q=>by have:=HNE.out; omega
            have HN10:Hid (¬ (N≤b10∧¬ KK b10)):=fun q=>q.2 ((HKK.out b10).2 (.inl rfl))
            have HRC:=hide (HRC5.out.kept HOW.out HN10.out)
            have HRK:Hid (∀ W,Only (fun k=>N≤k∧¬ KK k) wr W→Rws W a1 P1.rows):=fun W ho=>by
              by_cases r0:0 < P1.rows.length
              · exact (HR5.out.kept HOW.out (fun g e q=>q.2 ((HKK.out g).2 (.inr ⟨r0,e⟩)))).kept ho (fun g e q=>q.2 ((HKK.out g).2 (.inr ⟨r0,e⟩)))
              · exact fun h0=>absurd h0 r0
            have HNW:Hid (N≤wr.heap.size):=Nat.le_trans HN1.out HOV.out.size
            have HKW:Hid (∀ b,KK b→b < wr.heap.size):=fun b q=>Nat.lt_of_lt_of_le (HK5.out b q) HOW.out.size
            have HSO:=hide (HSR.out.each _ (List.getElem_mem hlt))
            have HSL:=hide ((HSB.out.each _ (List.getElem_mem hlt)).low)
            obtain ⟨s,hs⟩:=exq (E.B[j])
            rw [hs] at HRG HSO HSL
            rw [hao] at HEC
            clear hs hcell HSR hao
            have hj0:(0:Int)≤(j:Int):=by omega
            have hj1:(j:Int) < (E.B.length:Int):=by omega
            have HTL:Hid (∀ W,Only (fun _=>False) wr W→Calls Tryz.prog 14 #[.pointer (some ⟨p,0,none⟩),.agg s.cl.toArray] W fun x w'=>∃ Z2,x=.returned (.bool false)∧(∀ b,b < wr.heap.size→Z2 b→Z b)∧Pm w' Z2 p P1∧Only Z W w'):=fun W ho=>by
              refine (tell_law W Z p P1 (HP.out.more ho) (.inl HOVR.out) s _ (HSO.out.moreF ho) HSL.out (fun b hb=>by have:=HN.out; have:=(HZN.out b hb).1; omega)).mono (fun x w' q=>?_)
              obtain ⟨Z2,q1,q2,q3,q4⟩:=q.over HK4.out
              exact ⟨Z2,q1,fun b hb=>q2 b (Nat.lt_of_lt_of_le hb ho.size),q3,q4⟩
            have hfw:∀ W:World,(Instr.field 32 (.agg #[.int .i64 4,.string ⟨#[]⟩,.int .i64 0,.int .i64 0]) 0).run Tryz.prog W=.ok (.int .i64 4) W:=fun _=>by kernel_rfl
            have e2:=HEC.out.c 2 _ rfl
            go_upto_region 15 with fail
            go_cut [79] (fun x wx=>x=.bool false∧∃ Z2,Hid (Pm wx Z2 p P1)∧Hid (∀ b,Z2 b→N≤b∧¬ KK b)∧Hid (Only (fun k=>N≤k∧¬ KK k) wr wx))
            case first=>
              refine wp_region_noPanic ?_
              refine wp_region_held_drew (S:=fun W=>Only (fun k=>N≤k∧¬ KK k) wr W) (by kernel_rfl) (Only.drew _ _) (fun hHeld=>?_)
              refine tkP 0 (.pointer (some ⟨p,0,none⟩)) rfl ?_
              refine tkP 1 (.pointer (some ⟨(w.heap.size+1),2,none⟩)) rfl ?_
              refine tkP 3 (.int .i64 (j:Int)) rfl ?_
              refine tkQ 2 (.slice (some ⟨E.bB,o,none⟩) E.B.length E.cB) rfl (yieldsIf_load_cell (by rfl) 25 _ rfl _ rfl (fun W hW=>(HEC.out.kept hW HNQ.out).c 2 _ rfl) (fun W hc=>ld_shows hc)) ?_
              refine tkP 4 (.pointer (some ⟨E.bB,o+j * 22,none⟩)) rfl ?_
              refine tkQ 5 (.agg s.cl.toArray) rfl (yieldsIf_load_shw (by rfl) _ rfl rfl (fun W hW=>show_allS HRG.out hW HLT.out HNB.out)) ?_
              refine rd1 6 rfl (fun K hK=>?_)
              go_simp
              refine (HTL.out _ (Only.drew _ _)).mono ?_
              rintro x v1 ⟨Z2,rfl,hz2,hp2,ho2⟩
              have HZ2:=hide hz2
              have HP2:=hide hp2
              have HO2:Hid (Only (fun k=>N≤k∧¬ KK k) wr v1):=((Only.drew _ _).trans ho2 (fun i _ e=>HZN.out i e))
              clear hz2 hp2 ho2
              refine hK.out _ _ (HO2.out) (fun hHeld=>?_)
              clear hK K
              try simp only [Act.put,lsA,lsB,lsC]
              refine tkP 7 (.bool false) rfl ?_
              refine tkP 8 (.pointer (some ⟨p,0,none⟩)) rfl ?_
              refine rd1 9 rfl (fun K hK=>?_)
              go_simp
              refine (HWT.out _ Z2 HP2.out).mono ?_
              rintro x v2 ⟨rfl,ho⟩
              have HP3:=hide (HP2.out.more ho)
              have HO3:Hid (Only (fun k=>N≤k∧¬ KK k) wr v2):=HO2.out.trans ho (fun _ _ e=>e.elim)
              clear ho
              refine hK.out _ _ (HO3.out) (fun hHeld=>?_)
              clear hK K
              try simp only [Act.put,lsA,lsB,lsC]
              refine tkP 10 (.int .i64 4) rfl ?_
              refine tkP 11 (.bool false) rfl ?_
              refine tkP 12 (.bool false) rfl ?_
              refine tkP 13 (.bool false) rfl ?_
              refine tkP 14 (.pointer (some ⟨p,0,none⟩)) rfl ?_
              refine tkQ 16 (.agg #[.int .i64 er,.bool fd,.string vl,.slice a1 rn c1]) rfl (yieldsIf_load_repF (by rfl) _ rfl rfl (fun W hW=>HRC.out.kept hW HN10.out)) ?_
              refine rd1 15 rfl (fun K hK=>?_)
              go_simp
              refine (HRP.out _ Z2 HP3.out).mono ?_
              rintro x v3 ⟨a4,c4,rfl,hr4,ho⟩
              have HP4:=hide (HP3.out.more ho)
              have HO4:Hid (Only (fun k=>N≤k∧¬ KK k) wr v3):=HO3.out.trans ho (fun _ _ e=>e.elim)
              have HR4:=hide hr4
              clear ho hr4
              refine hK.out _ _ (HO4.out) (fun hHeld=>?_)
              clear hK K
              try simp only [Act.put,lsA,lsB,lsC]
              refine rd1 17 rfl (fun K hK=>?_)
              go_simp
              refine (HRQ.out _ a4 a1 c4 c1 HR4.out (HRK.out _ HO4.out)).mono ?_
              rintro x v4 ⟨rfl,ho⟩
              have HP5:=hide (HP4.out.more ho)
              have HO5:Hid (Only (fun k=>N≤k∧¬ KK k) wr v4):=HO4.out.trans ho (fun _ _ e=>e.elim)
              clear ho
              refine hK.out _ _ (HO5.out) (fun hHeld=>?_)
              clear hK K
              try simp only [Act.put,lsA,lsB,lsC]
              refine tkP 18 (.bool false) rfl ?_
              refine tkP 19 (.bool false) rfl ?_
              refine dnN ?_
              go_wp2_with fail
              go_meet
              exact ⟨rfl,Z2,HP5,(fun b hb=>by
                  by_cases q:b < wr.heap.size
                  · exact HZN.out b (HZ2.out b q hb)
                  · exact ⟨by have:=HNW.out; omega,fun k=>q (HKW.out b k)⟩),HO5⟩
            case rest=>
              obtain ⟨rfl,Z2,HP6,HZ6,HO6⟩:=hcut
              go_wp2_with fail
              go_roundw
              case rel=>exact ⟨j+1,by omega,by go_num,Z2,HP6,HZ6,hide (HOW.out.trans HO6.out (fun _ _ e=>e))⟩
              case measure=>simp [intOf]; omega
          · have e2:=HEC.out.c 2 _ rfl
            go_wp2_with fail
            refine (lwawake_any wr).mono ?_
            rintro x w6 ⟨rfl,ho⟩
            have HO6:=hide ho
            clear ho e2
            go_wp2_with fail
            go_ret
            exact ⟨rfl,HO1.out.trans (HOV.out.trans HO6.out (fun _ _ e=>e.elim)) (fun i hi e=>by have q:N≤i:=e; have:=HNE.out; omega)⟩
end Go.Proofs.YtajjakljheafjaaGreat
namespace Go.Proofs.YtajjakljheafjaaGreat
open Go.ChangeShapes Go.WideShapes Go.ChangeAt Go.RowKit Go.Deep
theorem Tryz.cellsEnds:Tryz.prog.cellsOf 59=3:=by kernel_rfl
theorem Tryz.cellsShows:Tryz.prog.cellsOf 25=1:=by kernel_rfl
theorem open_ends {H:Type} {enc:TypeId × Value→H} {W:World} {base:Nat} {v:Value} {d:DataW H} {ps:List MemPlace} (hok:Value.okWide Tryz.prog W .any base 59 v) (h:DataW.Trod enc Tryz.prog W 0 (fun _=>true) true 59 v d ps)
    (hw:∀ m ∈ d.weights Tryz.prog 59,m≤reachBytes):∃ E:Ed,v=.agg E.cl.toArray∧EdO W E:=by
  obtain ⟨cs,rfl,hs⟩:=okWide_struct Tryz.underlying59 hok
  obtain ⟨fuel,hf⟩:=h
  rw [Tryz.cellsEnds] at hs
  obtain ⟨xs,n,_,hx,_,hlen,hfs⟩:=DataW.trod_struct Tryz.underlying59 hf
  obtain ⟨c0,c1,c2,rfl⟩:∃ c0 c1 c2,cs=#[c0,c1,c2]:=by
    obtain ⟨l⟩:=cs
    match l,hs with
    | [c0,c1,c2],_=>exact ⟨c0,c1,c2,rfl⟩
  match xs,hlen with
  | [y0,y1,y2],_=>
    have g0:=hfs 0 _ rfl
    have g1:=hfs 1 _ rfl
    have g2:=hfs 2 _ rfl
    simp [Value.cells,Tryz.cellsShows,Tryz.cellsErrno] at g0 g1 g2
    have hx':d=DataW.agg (List.map (fun x=>x.fst) [y0,y1,y2]):=(Prod.mk.injEq _ _ _ _ ▸ hx).1
    rw [hx'] at hw
    simp only [DataW.weights,Tryz.underlying59] at hw
    have hw0:∀ m ∈ y0.1.weights Tryz.prog 25,m≤reachBytes:=fun m hm=>hw m (DataW.weights_mem_each (j:=0) (t:=25) (d:=y0.1) rfl rfl m hm)
    have hw2:∀ m ∈ y2.1.weights Tryz.prog 25,m≤reachBytes:=fun m hm=>hw m (DataW.weights_mem_each (j:=2) (t:=25) (d:=y2.1) rfl rfl m hm)
    obtain ⟨B0,a0,p0,l0,e0,h0⟩:=shows_of_trod g0 hw0
    obtain ⟨er,e1,_,_⟩:=DataW.trod_int Tryz.underlying28 g1
    obtain ⟨B2,a2,p2,l2,e2,h2⟩:=shows_of_trod g2 hw2
    simp at e1
    subst e0 e1 e2
    exact ⟨⟨B0,a0,p0,l0,er,B2,a2,p2,l2⟩,rfl,⟨h0,h2⟩⟩
end Go.Proofs.YtajjakljheafjaaGreat
