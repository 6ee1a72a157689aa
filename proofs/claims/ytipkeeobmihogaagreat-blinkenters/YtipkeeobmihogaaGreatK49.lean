/- Parts. -/
import Derived.Test.YtipkeeobmihogaaGreatK41
import Derived.Deep.RegionHeld3
import Derived.Deep.Draws
set_option maxRecDepth 100000
namespace Go.Proofs.YtipkeeobmihogaaGreat
open Go.RowKit
theorem load_im {w:World} {b k:Nat} {i:Im} {D:Nat} {ao:Option Addr} {cp:Nat} (h:ImAt w b k i D ao cp):(loadVar 24 ⟨b,k+1,none⟩).run Tryz.prog w=.ok (.agg #[.int .i64 i.body.lsn,.int .i64 i.body.kind,.int .i64 i.body.level,.int .i64 i.body.right,.string i.body.high,.slice ao i.body.items.length cp]) w:=by
  have c1:=h.c1
  have c2:=h.c2
  have c3:=h.c3
  have c4:=h.c4
  have c5:=h.c5
  have c6:=h.c6
  go_simp
theorem yieldsIf_load_im {ops:Array Oper} {S:World→Prop} {op:Oper} {a:Act} {b k:Nat} {i:Im} {D:Nat} {ao:Option Addr} {cp:Nat} (hw:Region.wanted op (yielded ops a.tmps)=true) (x:Operand) (ho:op.op=.load 24 x)
    (hx:a.eval x=.pointer (some ⟨b,k+1,none⟩)) (hS:∀ w,S w→ImAt w b k i D ao cp):YieldsIf Tryz.prog ops S op (.agg #[.int .i64 i.body.lsn,.int .i64 i.body.kind,.int .i64 i.body.level,.int .i64 i.body.right,.string i.body.high,.slice ao i.body.items.length cp]) a :=
  .inl ⟨hw,fun w hw'=>by
    unfold execOp
    simp only [ho,hx,Instr.loadAt,Instr.sureAddr,Sem.run_bind,Sem.run_pure,Result.andThen_ok,load_im (hS w hw')]⟩
set_option maxHeartbeats 3200000 in
theorem zsame_eqs (w:World) (a b:Rc) (L M:Loc) (ha:RcAt w a L) (hb:RcAt w b M) (he:a=b) :
    Calls Tryz.prog 10 #[.agg (a.cells L),.agg (b.cells M)] w fun e w'=>RB e (a=b)∧Only (fun _=>False) w w':=by
  have HEQ:=hide he
  clear he
  by_cases e0:a.lsn=b.lsn
  case neg=>exact absurd (by rw [HEQ.out]) e0
  have x0:(a.lsn != b.lsn)=false:=by simpa using e0
  by_cases e1:a.prev=b.prev
  case neg=>exact absurd (by rw [HEQ.out]) e1
  have x1:(a.prev != b.prev)=false:=by simpa using e1
  by_cases e2:a.next=b.next
  case neg=>exact absurd (by rw [HEQ.out]) e2
  have x2:(a.next != b.next)=false:=by simpa using e2
  by_cases e3:a.kind=b.kind
  case neg=>exact absurd (by rw [HEQ.out]) e3
  have x3:(a.kind != b.kind)=false:=by simpa using e3
  by_cases e4:a.xid=b.xid
  case neg=>exact absurd (by rw [HEQ.out]) e4
  have x4:(a.xid != b.xid)=false:=by simpa using e4
  by_cases e5:a.page=b.page
  case neg=>exact absurd (by rw [HEQ.out]) e5
  have x5:(a.page != b.page)=false:=by simpa using e5
  by_cases e6:a.slot=b.slot
  case neg=>exact absurd (by rw [HEQ.out]) e6
  have x6:(a.slot != b.slot)=false:=by simpa using e6
  by_cases e7:a.old=b.old
  case neg=>exact absurd (by rw [HEQ.out]) e7
  have x7:(a.old != b.old)=false:=by simpa using e7
  by_cases e8:a.new=b.new
  case neg=>exact absurd (by rw [HEQ.out]) e8
  have x8:(a.new != b.new)=false:=by simpa using e8
  by_cases e9:a.redo=b.redo
  case neg=>exact absurd (by rw [HEQ.out]) e9
  have x9:(a.redo != b.redo)=false:=by simpa using e9
  by_cases e10:a.data=b.data
  case neg=>exact absurd (by rw [HEQ.out]) e10
  have x10:(a.data.toList == b.data.toList)=true:=by rw [e10]; simp
  have E0:=hide e0
  have E1:=hide e1
  have E2:=hide e2
  have E3:=hide e3
  have E4:=hide e4
  have E5:=hide e5
  have E6:=hide e6
  have E7:=hide e7
  have E8:=hide e8
  have E9:=hide e9
  have E10:=hide e10
  clear e0 e1 e2 e3 e4 e5 e6 e7 e8 e9 e10
  obtain ⟨W,hW,hB1,hB2,hO⟩:=two_boxes w a b L M
  have HW:=hide hW
  have HB1:=hide hB1
  have HB2:=hide hB2
  have HO:=hide hO
  have HA:=hide (ha.go hO)
  have HB:=hide (hb.go hO)
  have l13:a.images.length≤17592186043904:=by obtain ⟨T,hi⟩:=ha.images; exact hi.len
  have l14:=ha.pages.len
  have l15:=ha.txns.len
  clear hW hB1 hB2 hO ha hb
  go_enter Tryz.func10,Tryz.ntmps10
  go_wp2_with fail
  rw [HW.out]
  refine (zints_any W _ _ _ _ _ _ _ _ HA.out.slots HB.out.slots).mono ?_
  rintro e w1 ⟨hb,ho1⟩
  obtain ⟨c,rfl,hc⟩:=hb.ex
  have HO1:=hide (ho1)
  have HC1:=hide hc
  clear hc hb ho1
  cases c
  case false=>
    go_wp2_with fail
    go_ret
    exact ⟨RB.no (fun h=>by have:=HC1.out.2 (by rw [h]); simp at this),o2 HO.out HO1.out⟩
  have E11:=hide (HC1.out.1 rfl)
  have a12:=(HB1.out.more HO1.out).c12
  have b12:=(HB2.out.more HO1.out).c12
  go_wp2_with fail
  refine (zints_any _ _ _ _ _ _ _ _ _ (HA.out.go HO1.out).more (HB.out.go HO1.out).more).mono ?_
  rintro e w2 ⟨hb,ho2⟩
  obtain ⟨c,rfl,hc⟩:=hb.ex
  have HO2:=hide (o2 HO1.out ho2)
  have HC2:=hide hc
  clear hc hb ho2 a12 b12
  cases c
  case false=>
    go_wp2_with fail
    go_ret
    exact ⟨RB.no (fun h=>by have:=HC2.out.2 (by rw [h]); simp at this),o2 HO.out HO2.out⟩
  have E12:=hide (HC2.out.1 rfl)
  have a13:=(HB1.out.more HO2.out).c13
  have b13:=(HB2.out.more HO2.out).c13
  have a14:=(HB1.out.more HO2.out).c14
  have b14:=(HB2.out.more HO2.out).c14
  have a15:=(HB1.out.more HO2.out).c15
  have b15:=(HB2.out.more HO2.out).c15
  by_cases n0:a.images.length=b.images.length
  case neg=>
    have n0':((a.images.length:Int) != (b.images.length:Int))=true:=by simp; omega
    have HN:Hid (¬ a=b):=fun h=>n0 (by rw [h])
    clear n0
    go_wp2_with fail
    go_ret
    exact ⟨RB.no HN.out,o2 HO.out HO2.out⟩
  have n0':((a.images.length:Int) != (b.images.length:Int))=false:=by simp; omega
  have HN0:=hide n0
  clear n0
  by_cases n1:a.pages.length=b.pages.length
  case neg=>
    have n1':((a.pages.length:Int) != (b.pages.length:Int))=true:=by simp; omega
    have HN:Hid (¬ a=b):=fun h=>n1 (by rw [h])
    clear n1
    go_wp2_with fail
    go_ret
    exact ⟨RB.no HN.out,o2 HO.out HO2.out⟩
  have n1':((a.pages.length:Int) != (b.pages.length:Int))=false:=by simp; omega
  have HN1:=hide n1
  clear n1
  by_cases n2:a.txns.length=b.txns.length
  case neg=>
    have n2':((a.txns.length:Int) != (b.txns.length:Int))=true:=by simp; omega
    have HN:Hid (¬ a=b):=fun h=>n2 (by rw [h])
    clear n2
    go_wp2_with fail
    go_ret
    exact ⟨RB.no HN.out,o2 HO.out HO2.out⟩
  have n2':((a.txns.length:Int) != (b.txns.length:Int))=false:=by simp; omega
  have HN2:=hide n2
  clear n2
  obtain ⟨T,hi⟩:=HA.out.images
  obtain ⟨T',hi'⟩:=HB.out.images
  have HI:=hide hi
  have HI':=hide hi'
  clear hi hi'
  go_wp2_with fail
  clear a13 b13 a14 b14 a15 b15 x0 x1 x2 x3 x4 x5 x6 x7 x8 x9 x10 n0' n1' n2'
  go_loopw [5] (fun y wr=>∃ (j:Nat),j≤a.images.length∧y=.int .i64 (j:Int)∧Hid (a.images.take j=b.images.take j)∧Hid (Only (fun _=>False) W wr)) (fun y _=>a.images.length - (intOf y).toNat)
  case atStart=>exact ⟨0,by omega,rfl,rfl,HO2⟩
  case round=>
    obtain ⟨j,hj,rfl,HQ,HX0⟩:=hrel
    by_cases hlt:j < a.images.length
    · have hlt':j < b.images.length:=by have:=HN0.out; omega
      have hj1:(j:Int) < (a.images.length:Int):=by omega
      have hj1':(j:Int) < (b.images.length:Int):=by omega
      obtain ⟨o,e1,c1⟩:=HI.out.at_ (by omega)
      obtain ⟨D,aa,cc,kim,_⟩:=c1 j hlt
      obtain ⟨p,e1',c1'⟩:=HI'.out.at_ (by omega)
      obtain ⟨D',aa',cc',kim',_⟩:=c1' j hlt'
      obtain ⟨z,hz⟩:=exq (a.images[j])
      obtain ⟨y,hy⟩:=exq (b.images[j])
      have HT:Hid (a.images.take (j+1)=a.images.take j++[z]):=by unfold Hid; rw [List.take_succ_eq_append_getElem hlt,hz]
      have HT':Hid (b.images.take (j+1)=b.images.take j++[y]):=by unfold Hid; rw [List.take_succ_eq_append_getElem hlt',hy]
      have HNE:Hid (¬ z=y→¬ a=b):=fun hzy h=>hzy (by rw [← hz,← hy]; simp [h])
      rw [hz] at kim
      rw [hy] at kim'
      have HL3:Hid (L.b3 < W.heap.size):=HI.out.lt (by omega)
      have HM3:Hid (M.b3 < W.heap.size):=HI'.out.lt (by omega)
      have KI:Hid (∀ X,Only (fun _=>False) W X→ImAt X L.b3 (o+j * 7) z D aa cc):=fun X hX=>kim.kept HL3.out hX (fun h=>h) (fun _ h=>h)
      have KI':Hid (∀ X,Only (fun _=>False) W X→ImAt X M.b3 (p+j * 7) y D' aa' cc'):=fun X hX=>kim'.kept HM3.out hX (fun h=>h) (fun _ h=>h)
      have KC:Hid (∀ X,Only (fun _=>False) W X→X.cell? ⟨w.heap.size,13,none⟩=some (.slice (some ⟨L.b3,o,none⟩) a.images.length L.c3)):=fun X hX=>by rw [← e1]; exact (HB1.out.more hX).c13
      have KC':Hid (∀ X,Only (fun _=>False) W X→X.cell? ⟨w.heap.size+1,13,none⟩=some (.slice (some ⟨M.b3,p,none⟩) b.images.length M.c3)):=fun X hX=>by rw [← e1']; exact (HB2.out.more hX).c13
      have ca:=(HB1.out.more HX0.out).c13
      clear hz hy kim kim' c1 c1' e1 e1'
      by_cases hp:z.page=y.page
      · have hx:(z.page != y.page)=false:=by simpa using hp
        have HP:=hide hp
        clear hp
        obtain ⟨c,hc⟩:=exq (decide (z.body.lsn=y.body.lsn∧z.body.kind=y.body.kind∧z.body.level=y.body.level∧z.body.right=y.body.right∧z.body.high=y.body.high∧z.body.items=y.body.items))
        have HYS:Hid (∀ X,Hid (Only (fun _=>False) W X)→Calls Tryz.prog 27 #[.agg #[.int .i64 z.body.lsn,.int .i64 z.body.kind,.int .i64 z.body.level,.int .i64 z.body.right,.string z.body.high,.slice aa z.body.items.length cc],.agg #[.int .i64 y.body.lsn,.int .i64 y.body.kind,.int .i64 y.body.level,.int .i64 y.body.right,.string y.body.high,.slice aa' y.body.items.length cc']] X fun e w'=>e=.returned (.bool c)∧Only (fun _=>False) W w'):=by
          intro X hX
          rw [← hc]
          exact (ysame_any X _ _ _ _ _ _ _ _ _ _ D D' cc cc' aa aa' _ _ (KI.out X hX.out).strs (KI'.out X hX.out).strs).mono (fun e w' h=>⟨h.1,o2 hX.out h.2⟩)
        have HC:=hide hc
        clear hc
        cases c
        case true=>
          have HZY:Hid (z=y):=im_ext HP.out (of_decide_eq_true HC.out)
          go_upto_region 8 with fail
          refine wp_region_noPanic ?_
          refine wp_region_held_drew (S:=fun X=>Only (fun _=>False) W X) (by kernel_rfl) (o2 HX0.out (Only.drew _ _)) (fun hHeld=>?_)
          refine tkP 0 (.pointer (some ⟨w.heap.size,13,none⟩)) rfl ?_
          refine tkP 2 (.int .i64 (j:Int)) rfl ?_
          refine tkP 6 (.pointer (some ⟨w.heap.size+1,13,none⟩)) rfl ?_
          refine tkP 8 (.int .i64 (j:Int)) rfl ?_
          refine tkQ 1 (.slice (some ⟨L.b3,o,none⟩) a.images.length L.c3) rfl (yieldsIf_load_cell (by rfl) 32 _ rfl _ rfl (fun W hW=>KC.out W hW) (fun W hc=>ld_images hc)) ?_
          refine tkQ 7 (.slice (some ⟨M.b3,p,none⟩) b.images.length M.c3) rfl (yieldsIf_load_cell (by rfl) 32 _ rfl _ rfl (fun W hW=>KC'.out W hW) (fun W hc=>ld_images hc)) ?_
          refine tkP 3 (.pointer (some ⟨L.b3,o+j * 7,none⟩)) rfl ?_
          refine tkP 9 (.pointer (some ⟨M.b3,p+j * 7,none⟩)) rfl ?_
          refine tkP 4 (.pointer (some ⟨L.b3,o+j * 7,none⟩)) rfl ?_
          refine tkP 10 (.pointer (some ⟨M.b3,p+j * 7,none⟩)) rfl ?_
          refine tkQ 5 (.int .i64 z.page) rfl (yieldsIf_load_cell (by rfl) 3 _ rfl _ rfl (fun W hW=>(KI.out W hW).c0) (fun W hc=>ld_int hc)) ?_
          refine tkQ 11 (.int .i64 y.page) rfl (yieldsIf_load_cell (by rfl) 3 _ rfl _ rfl (fun W hW=>(KI'.out W hW).c0) (fun W hc=>ld_int hc)) ?_
          refine tkP 12 (.bool false) rfl ?_
          refine tkP 13 (.bool false) rfl ?_
          refine tkP 14 (.pointer (some ⟨w.heap.size,13,none⟩)) rfl ?_
          refine tkP 16 (.int .i64 (j:Int)) rfl ?_
          refine tkP 20 (.pointer (some ⟨w.heap.size+1,13,none⟩)) rfl ?_
          refine tkP 22 (.int .i64 (j:Int)) rfl ?_
          refine tkQ 15 (.slice (some ⟨L.b3,o,none⟩) a.images.length L.c3) rfl (yieldsIf_load_cell (by rfl) 32 _ rfl _ rfl (fun W hW=>KC.out W hW) (fun W hc=>ld_images hc)) ?_
          refine tkQ 21 (.slice (some ⟨M.b3,p,none⟩) b.images.length M.c3) rfl (yieldsIf_load_cell (by rfl) 32 _ rfl _ rfl (fun W hW=>KC'.out W hW) (fun W hc=>ld_images hc)) ?_
          refine tkP 17 (.pointer (some ⟨L.b3,o+j * 7,none⟩)) rfl ?_
          refine tkP 23 (.pointer (some ⟨M.b3,p+j * 7,none⟩)) rfl ?_
          refine tkP 18 (.pointer (some ⟨L.b3,o+j * 7+1,none⟩)) rfl ?_
          refine tkP 24 (.pointer (some ⟨M.b3,p+j * 7+1,none⟩)) rfl ?_
          refine tkQ 19 (.agg #[.int .i64 z.body.lsn,.int .i64 z.body.kind,.int .i64 z.body.level,.int .i64 z.body.right,.string z.body.high,.slice aa z.body.items.length cc]) rfl (yieldsIf_load_im (by rfl) _ rfl rfl (fun W hW=>KI.out W hW)) ?_
          refine tkQ 25 (.agg #[.int .i64 y.body.lsn,.int .i64 y.body.kind,.int .i64 y.body.level,.int .i64 y.body.right,.string y.body.high,.slice aa' y.body.items.length cc']) rfl (yieldsIf_load_im (by rfl) _ rfl rfl (fun W hW=>KI'.out W hW)) ?_
          refine rd1 26 rfl (fun K hK=>?_)
          go_simp
          refine (HYS.out _ (hide hHeld)).mono ?_
          rintro e x1 ⟨rfl,hx1⟩
          have HX9:=hide hx1
          clear hx1
          refine hK.out _ _ (HX9.out) (fun hHeld=>?_)
          clear hK K
          try simp only [Act.put,lsA,lsB,lsC]
          refine tkP 27 (.bool false) rfl ?_
          refine tkP 28 (.bool false) rfl ?_
          refine dnN ?_
          go_wp2_with fail
          go_roundw
          case rel=>exact ⟨j+1,by omega,by go_num,(by unfold Hid; rw [HT.out,HT'.out,HQ.out,HZY.out]),HX9⟩
          case measure=>simp [intOf]; omega
        case false=>
          have HN:Hid (¬ a=b):=HNE.out (fun h=>of_decide_eq_false HC.out (by subst h; exact ⟨rfl,rfl,rfl,rfl,rfl,rfl⟩))
          go_upto_region 8 with fail
          refine wp_region_noPanic ?_
          refine wp_region_held_drew (S:=fun X=>Only (fun _=>False) W X) (by kernel_rfl) (o2 HX0.out (Only.drew _ _)) (fun hHeld=>?_)
          refine tkP 0 (.pointer (some ⟨w.heap.size,13,none⟩)) rfl ?_
          refine tkP 2 (.int .i64 (j:Int)) rfl ?_
          refine tkP 6 (.pointer (some ⟨w.heap.size+1,13,none⟩)) rfl ?_
          refine tkP 8 (.int .i64 (j:Int)) rfl ?_
          refine tkQ 1 (.slice (some ⟨L.b3,o,none⟩) a.images.length L.c3) rfl (yieldsIf_load_cell (by rfl) 32 _ rfl _ rfl (fun W hW=>KC.out W hW) (fun W hc=>ld_images hc)) ?_
          refine tkQ 7 (.slice (some ⟨M.b3,p,none⟩) b.images.length M.c3) rfl (yieldsIf_load_cell (by rfl) 32 _ rfl _ rfl (fun W hW=>KC'.out W hW) (fun W hc=>ld_images hc)) ?_
          refine tkP 3 (.pointer (some ⟨L.b3,o+j * 7,none⟩)) rfl ?_
          refine tkP 9 (.pointer (some ⟨M.b3,p+j * 7,none⟩)) rfl ?_
          refine tkP 4 (.pointer (some ⟨L.b3,o+j * 7,none⟩)) rfl ?_
          refine tkP 10 (.pointer (some ⟨M.b3,p+j * 7,none⟩)) rfl ?_
          refine tkQ 5 (.int .i64 z.page) rfl (yieldsIf_load_cell (by rfl) 3 _ rfl _ rfl (fun W hW=>(KI.out W hW).c0) (fun W hc=>ld_int hc)) ?_
          refine tkQ 11 (.int .i64 y.page) rfl (yieldsIf_load_cell (by rfl) 3 _ rfl _ rfl (fun W hW=>(KI'.out W hW).c0) (fun W hc=>ld_int hc)) ?_
          refine tkP 12 (.bool false) rfl ?_
          refine tkP 13 (.bool false) rfl ?_
          refine tkP 14 (.pointer (some ⟨w.heap.size,13,none⟩)) rfl ?_
          refine tkP 16 (.int .i64 (j:Int)) rfl ?_
          refine tkP 20 (.pointer (some ⟨w.heap.size+1,13,none⟩)) rfl ?_
          refine tkP 22 (.int .i64 (j:Int)) rfl ?_
          refine tkQ 15 (.slice (some ⟨L.b3,o,none⟩) a.images.length L.c3) rfl (yieldsIf_load_cell (by rfl) 32 _ rfl _ rfl (fun W hW=>KC.out W hW) (fun W hc=>ld_images hc)) ?_
          refine tkQ 21 (.slice (some ⟨M.b3,p,none⟩) b.images.length M.c3) rfl (yieldsIf_load_cell (by rfl) 32 _ rfl _ rfl (fun W hW=>KC'.out W hW) (fun W hc=>ld_images hc)) ?_
          refine tkP 17 (.pointer (some ⟨L.b3,o+j * 7,none⟩)) rfl ?_
          refine tkP 23 (.pointer (some ⟨M.b3,p+j * 7,none⟩)) rfl ?_
          refine tkP 18 (.pointer (some ⟨L.b3,o+j * 7+1,none⟩)) rfl ?_
          refine tkP 24 (.pointer (some ⟨M.b3,p+j * 7+1,none⟩)) rfl ?_
          refine tkQ 19 (.agg #[.int .i64 z.body.lsn,.int .i64 z.body.kind,.int .i64 z.body.level,.int .i64 z.body.right,.string z.body.high,.slice aa z.body.items.length cc]) rfl (yieldsIf_load_im (by rfl) _ rfl rfl (fun W hW=>KI.out W hW)) ?_
          refine tkQ 25 (.agg #[.int .i64 y.body.lsn,.int .i64 y.body.kind,.int .i64 y.body.level,.int .i64 y.body.right,.string y.body.high,.slice aa' y.body.items.length cc']) rfl (yieldsIf_load_im (by rfl) _ rfl rfl (fun W hW=>KI'.out W hW)) ?_
          refine rd1 26 rfl (fun K hK=>?_)
          go_simp
          refine (HYS.out _ (hide hHeld)).mono ?_
          rintro e x1 ⟨rfl,hx1⟩
          have HX9:=hide hx1
          clear hx1
          refine hK.out _ _ (HX9.out) (fun hHeld=>?_)
          clear hK K
          try simp only [Act.put,lsA,lsB,lsC]
          refine tkP 27 (.bool true) rfl ?_
          refine tkP 28 (.bool true) rfl ?_
          refine dnN ?_
          go_wp2_with fail
          go_ret
          exact ⟨RB.no HN.out,o2 HO.out HX9.out⟩
      · have hx:(z.page != y.page)=true:=by simpa using hp
        have HN:Hid (¬ a=b):=HNE.out (fun h=>hp (by rw [h]))
        clear hp
        go_upto_region 8 with fail
        refine wp_region_noPanic ?_
        refine wp_region_held_drew (S:=fun X=>Only (fun _=>False) W X) (by kernel_rfl) (o2 HX0.out (Only.drew _ _)) (fun hHeld=>?_)
        refine tkP 0 (.pointer (some ⟨w.heap.size,13,none⟩)) rfl ?_
        refine tkP 2 (.int .i64 (j:Int)) rfl ?_
        refine tkP 6 (.pointer (some ⟨w.heap.size+1,13,none⟩)) rfl ?_
        refine tkP 8 (.int .i64 (j:Int)) rfl ?_
        refine tkQ 1 (.slice (some ⟨L.b3,o,none⟩) a.images.length L.c3) rfl (yieldsIf_load_cell (by rfl) 32 _ rfl _ rfl (fun W hW=>KC.out W hW) (fun W hc=>ld_images hc)) ?_
        refine tkQ 7 (.slice (some ⟨M.b3,p,none⟩) b.images.length M.c3) rfl (yieldsIf_load_cell (by rfl) 32 _ rfl _ rfl (fun W hW=>KC'.out W hW) (fun W hc=>ld_images hc)) ?_
        refine tkP 3 (.pointer (some ⟨L.b3,o+j * 7,none⟩)) rfl ?_
        refine tkP 9 (.pointer (some ⟨M.b3,p+j * 7,none⟩)) rfl ?_
        refine tkP 4 (.pointer (some ⟨L.b3,o+j * 7,none⟩)) rfl ?_
        refine tkP 10 (.pointer (some ⟨M.b3,p+j * 7,none⟩)) rfl ?_
        refine tkQ 5 (.int .i64 z.page) rfl (yieldsIf_load_cell (by rfl) 3 _ rfl _ rfl (fun W hW=>(KI.out W hW).c0) (fun W hc=>ld_int hc)) ?_
        refine tkQ 11 (.int .i64 y.page) rfl (yieldsIf_load_cell (by rfl) 3 _ rfl _ rfl (fun W hW=>(KI'.out W hW).c0) (fun W hc=>ld_int hc)) ?_
        refine tkP 12 (.bool true) rfl ?_
        refine tkP 13 (.bool true) rfl ?_
        refine tkQ 14 undef rfl (Or.inr ⟨by rfl,rfl⟩) ?_
        refine tkQ 16 undef rfl (Or.inr ⟨by rfl,rfl⟩) ?_
        refine tkQ 20 undef rfl (Or.inr ⟨by rfl,rfl⟩) ?_
        refine tkQ 22 undef rfl (Or.inr ⟨by rfl,rfl⟩) ?_
        refine tkQ 15 undef rfl (Or.inr ⟨by rfl,rfl⟩) ?_
        refine tkQ 21 undef rfl (Or.inr ⟨by rfl,rfl⟩) ?_
        refine tkQ 17 undef rfl (Or.inr ⟨by rfl,rfl⟩) ?_
        refine tkQ 23 undef rfl (Or.inr ⟨by rfl,rfl⟩) ?_
        refine tkQ 18 undef rfl (Or.inr ⟨by rfl,rfl⟩) ?_
        refine tkQ 24 undef rfl (Or.inr ⟨by rfl,rfl⟩) ?_
        refine tkQ 19 undef rfl (Or.inr ⟨by rfl,rfl⟩) ?_
        refine tkQ 25 undef rfl (Or.inr ⟨by rfl,rfl⟩) ?_
        refine tkQ 26 undef rfl (Or.inr ⟨by rfl,rfl⟩) ?_
        refine tkQ 27 undef rfl (Or.inr ⟨by rfl,rfl⟩) ?_
        refine tkP 28 (.bool true) rfl ?_
        refine dnN ?_
        have HX9:=hide hHeld
        go_wp2_with fail
        go_ret
        exact ⟨RB.no HN.out,o2 HO.out HX9.out⟩
    · have hj1:¬ (j:Int) < (a.images.length:Int):=by omega
      have e:a.images.take j=a.images:=List.take_of_length_le (by omega)
      have e':b.images.take j=b.images:=List.take_of_length_le (by have:=HN0.out; omega)
      rw [e,e'] at HQ
      have EE0:=hide HQ.out
      have ca:=(HB1.out.more HX0.out).c13
      clear HQ e e'
      go_wp2_with fail
      clear ca
      go_loopw [6] (fun y wr=>∃ (j:Nat),j≤a.pages.length∧y=.int .i64 (j:Int)∧Hid (a.pages.take j=b.pages.take j)∧Hid (Only (fun _=>False) W wr)) (fun y _=>a.pages.length - (intOf y).toNat)
      case atStart=>exact ⟨0,by omega,rfl,rfl,HX0⟩
      case round=>
        obtain ⟨j,hj,rfl,HQ,HX1⟩:=hrel
        by_cases hlt:j < a.pages.length
        · have hlt':j < b.pages.length:=by have:=HN1.out; omega
          have hj1:(j:Int) < (a.pages.length:Int):=by omega
          have hj1':(j:Int) < (b.pages.length:Int):=by omega
          obtain ⟨o,e1,c1⟩:=(HA.out.go HX1.out).pages.at_ (by omega)
          obtain ⟨p,e1',c1'⟩:=(HB.out.go HX1.out).pages.at_ (by omega)
          obtain ⟨d0,d1⟩:=c1 j hlt
          obtain ⟨d0',d1'⟩:=c1' j hlt'
          obtain ⟨z,hz⟩:=exq (a.pages[j])
          obtain ⟨y,hy⟩:=exq (b.pages[j])
          have HT:Hid (a.pages.take (j+1)=a.pages.take j++[z]):=by unfold Hid; rw [List.take_succ_eq_append_getElem hlt,hz]
          have HT':Hid (b.pages.take (j+1)=b.pages.take j++[y]):=by unfold Hid; rw [List.take_succ_eq_append_getElem hlt',hy]
          have HNE:Hid (¬ z=y→¬ a=b):=fun hzy h=>hzy (by rw [← hz,← hy]; simp [h])
          rw [hz] at d0 d1
          rw [hy] at d0' d1'
          have ca:=(HB1.out.more HX1.out).c14
          have cb:=(HB2.out.more HX1.out).c14
          rw [e1] at ca
          rw [e1'] at cb
          clear hz hy c1 c1' e1 e1'
          by_cases hzy:z=y
          · have HF:Hid (a.pages.take (j+1)=b.pages.take (j+1)):=by unfold Hid; rw [HT.out,HT'.out,HQ.out,hzy]
            subst hzy
            go_wp2_with fail
            go_region
            go_wp2_with fail
            go_roundw
            case rel=>exact ⟨j+1,by omega,by go_num,HF,o2 HX1.out (Only.drew _ _)⟩
            case measure=>simp [intOf]; omega
          · have HF:Hid (¬ a=b):=HNE.out hzy
            by_cases h1:z.1=y.1
            · have h2:¬ z.2=y.2:=fun h2=>hzy (Prod.ext h1 h2)
              clear hzy
              go_wp2_with fail
              go_region
              go_wp2_with fail
              go_ret
              exact ⟨RB.no HF.out,o2 HO.out (o2 HX1.out (Only.drew _ _))⟩
            · clear hzy
              go_wp2_with fail
              go_region
              go_wp2_with fail
              go_ret
              exact ⟨RB.no HF.out,o2 HO.out (o2 HX1.out (Only.drew _ _))⟩
        · have hj1:¬ (j:Int) < (a.pages.length:Int):=by omega
          have e:a.pages.take j=a.pages:=List.take_of_length_le (by omega)
          have e':b.pages.take j=b.pages:=List.take_of_length_le (by have:=HN1.out; omega)
          rw [e,e'] at HQ
          have EE1:=hide HQ.out
          have ca:=(HB1.out.more HX1.out).c14
          clear HQ e e'
          go_wp2_with fail
          clear ca
          go_loopw [7] (fun y wr=>∃ (j:Nat),j≤a.txns.length∧y=.int .i64 (j:Int)∧Hid (a.txns.take j=b.txns.take j)∧Hid (Only (fun _=>False) W wr)) (fun y _=>a.txns.length - (intOf y).toNat)
          case atStart=>exact ⟨0,by omega,rfl,rfl,HX1⟩
          case round=>
            obtain ⟨j,hj,rfl,HQ,HX2⟩:=hrel
            by_cases hlt:j < a.txns.length
            · have hlt':j < b.txns.length:=by have:=HN2.out; omega
              have hj1:(j:Int) < (a.txns.length:Int):=by omega
              have hj1':(j:Int) < (b.txns.length:Int):=by omega
              obtain ⟨o,e1,c1⟩:=(HA.out.go HX2.out).txns.at_ (by omega)
              obtain ⟨p,e1',c1'⟩:=(HB.out.go HX2.out).txns.at_ (by omega)
              obtain ⟨d0,d1⟩:=c1 j hlt
              obtain ⟨d0',d1'⟩:=c1' j hlt'
              obtain ⟨z,hz⟩:=exq (a.txns[j])
              obtain ⟨y,hy⟩:=exq (b.txns[j])
              have HT:Hid (a.txns.take (j+1)=a.txns.take j++[z]):=by unfold Hid; rw [List.take_succ_eq_append_getElem hlt,hz]
              have HT':Hid (b.txns.take (j+1)=b.txns.take j++[y]):=by unfold Hid; rw [List.take_succ_eq_append_getElem hlt',hy]
              have HNE:Hid (¬ z=y→¬ a=b):=fun hzy h=>hzy (by rw [← hz,← hy]; simp [h])
              rw [hz] at d0 d1
              rw [hy] at d0' d1'
              have ca:=(HB1.out.more HX2.out).c15
              have cb:=(HB2.out.more HX2.out).c15
              rw [e1] at ca
              rw [e1'] at cb
              clear hz hy c1 c1' e1 e1'
              by_cases hzy:z=y
              · have HF:Hid (a.txns.take (j+1)=b.txns.take (j+1)):=by unfold Hid; rw [HT.out,HT'.out,HQ.out,hzy]
                subst hzy
                go_wp2_with fail
                go_region
                go_wp2_with fail
                go_roundw
                case rel=>exact ⟨j+1,by omega,by go_num,HF,o2 HX2.out (Only.drew _ _)⟩
                case measure=>simp [intOf]; omega
              · have HF:Hid (¬ a=b):=HNE.out hzy
                by_cases h1:z.1=y.1
                · have h2:¬ z.2=y.2:=fun h2=>hzy (Prod.ext h1 h2)
                  clear hzy
                  go_wp2_with fail
                  go_region
                  go_wp2_with fail
                  go_ret
                  exact ⟨RB.no HF.out,o2 HO.out (o2 HX2.out (Only.drew _ _))⟩
                · clear hzy
                  go_wp2_with fail
                  go_region
                  go_wp2_with fail
                  go_ret
                  exact ⟨RB.no HF.out,o2 HO.out (o2 HX2.out (Only.drew _ _))⟩
            · have hj1:¬ (j:Int) < (a.txns.length:Int):=by omega
              have e:a.txns.take j=a.txns:=List.take_of_length_le (by omega)
              have e':b.txns.take j=b.txns:=List.take_of_length_le (by have:=HN2.out; omega)
              rw [e,e'] at HQ
              have EE2:=hide HQ.out
              have ca:=(HB1.out.more HX2.out).c15
              clear HQ e e'
              go_wp2_with fail
              clear ca
              go_ret
              exact ⟨RB.yes (rc_ext E0.out E1.out E2.out E3.out E4.out E5.out E6.out E7.out E8.out E9.out E10.out E11.out E12.out EE0.out EE1.out EE2.out),o2 HO.out HX2.out⟩
end Go.Proofs.YtipkeeobmihogaaGreat
