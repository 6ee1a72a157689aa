/- Parts. -/
import Derived.Test.YtajjakljheafjaaGreatK24
import Derived.Lib.AppendZeros
set_option maxRecDepth 100000
namespace Go.Proofs.YtajjakljheafjaaGreat
open Go.RowKit
theorem Tryz.sizePlan:(Tryz.prog.info? 96).map (·.size)=some 28:=by kernel_rfl
theorem run_build_over (w:World) (e:Int) (f:Bool) (v:ByteArray) (ra:Option Addr) (n rc:Nat) (p:Nat) (L:List (ByteArray × ByteArray)) (hn:L.length=n) :
    (Instr.build 96 #[(2,.agg #[.int .i64 4,.string ⟨#[]⟩,.int .i64 0,.int .i64 0]),(8,.agg #[.int .i64 e,.bool f,.string v,.slice ra n rc])]).run Tryz.prog w=.ok (.agg ((Pn.over e f v ra L rc).cl p).toArray) w:=by
  subst hn
  exact run_build w 96 _ _ (by kernel_rfl)
section
variable {ops:Array Oper} {rest:List Oper} {o:Oper} {a:Act} {w:World} {Q:Exit→Act→World→Prop}
theorem wpList_build_over (hg:o.guard=none) (a2 a8:Operand) (hop:o.op=.build 96 #[(2,a2),(8,a8)]) (e:Int) (f:Bool) (v:ByteArray) (ra:Option Addr) (n rc:Nat) (p:Nat) (L:List (ByteArray × ByteArray)) (hn:L.length=n) (h2:a.eval a2=.agg #[.int .i64 4,.string ⟨#[]⟩,.int .i64 0,.int .i64 0]) (h8:a.eval a8=.agg #[.int .i64 e,.bool f,.string v,.slice ra n rc])
    (h:wpList Tryz.prog ops Q rest (a.put o.dst (.agg ((Pn.over e f v ra L rc).cl p).toArray)) w):wpList Tryz.prog ops Q (o :: rest) a w:=by
  refine wpList_plain hg fun K hK=>?_
  unfold Oper.wp execOp
  have e:(#[(2,a2),(8,a8)]:Array (Nat × Operand)).map (fun x=>(x.1,a.eval x.2))=#[(2,.agg #[.int .i64 4,.string ⟨#[]⟩,.int .i64 0,.int .i64 0]),(8,.agg #[.int .i64 e,.bool f,.string v,.slice ra n rc])]:=by
    simp only [List.map_toArray,List.map_cons,List.map_nil,h2,h8]
  simp only [hop,e,Sem.run_bind,Sem.run_pure,Result.andThen_ok,run_build_over w _ f v ra n rc p L hn]
  exact hK _ _ h
theorem wpList_put_plan (hg:o.guard=none) (x y:Operand) (hop:o.op=.store 96 x y) (b:Nat) (hx:a.eval x=.pointer (some ⟨b,0,none⟩)) (cs:List Value) (hl:cs.length=28) (ds:List Value) (hd:ds.length=28) (ho:ds.all Value.oneCell'=true) (hy:a.eval y=.agg ds.toArray) (hc:Cb w b cs)
    (h:∀ W,Hid (Cb W b ds∧Only (fun k=>k=b) w W)→wpList Tryz.prog ops Q rest (a.put o.dst undef) W):wpList Tryz.prog ops Q (o :: rest) a w :=
  wpList_store_mid hg 96 x y hop b 0 ds.toArray hx hy (by have:=hc.rg.there; rw [hl] at this; simpa [hd] using this) (by simpa [hd] using Tryz.sizePlan) (by simpa using ho) (h _ ⟨by
    have q:=Cb.sets (c1:=[]) (c2:=cs) (c3:=[]) (by simpa using hc) ds (by rw [hl,hd])
    simpa using q,only_setCells _ _ _ _⟩)
end
theorem wants_any (w:World) (Z:Nat→Prop) (p:Nat) (P:Pn) (h:Pm w Z p P) (k:Int) :
    Calls Tryz.prog 30 #[.pointer (some ⟨p,0,none⟩),.int .i64 k] w fun e w'=>e=.returned (.bool (P.wk == k))∧w'=w:=by
  have c6:=h.cb.c 6 _ rfl
  clear h
  go_enter Tryz.func30,Tryz.ntmps30
  go_wp2_with fail
  go_ret
  exact ⟨rfl,rfl⟩
theorem Op.none {p:Nat} {w w1 w2:World} (h:Only (fun _=>False) w w1) (k:Only (fun k=>k=p) w1 w2):Only (fun k=>k=p) w w2:=(h.mono (fun _ _ e=>e.elim)).trans k (fun _ _ h=>h)
theorem Op.two {p:Nat} {w w1 w2:World} (h:Only (fun k=>k=p) w w1) (k:Only (fun k=>k=p) w1 w2):Only (fun k=>k=p) w w2:=h.trans k (fun _ _ h=>h)
theorem Op.fst {p:Nat} {w w1 w2:World} (h:Only (fun k=>k=p) w w1) (k:Only (fun _=>False) w1 w2):Only (fun k=>k=p) w w2:=h.trans k (fun _ _ h=>h.elim)
theorem Op.own {p b:Nat} {w w1 w2:World} (h:Only (fun k=>k=p) w w1) (k:Only (fun k=>k=b) w1 w2) (hb:w.heap.size≤b):Only (fun k=>k=p) w w2:=h.trans k (fun i hi e=>by omega)
def Pn.chg (P:Pn):Bool:=P.call == 3 || P.call == 4
theorem changes_any (w:World) (Z:Nat→Prop) (p:Nat) (P:Pn) (h:Pm w Z p P) :
    Calls Tryz.prog 26 #[.pointer (some ⟨p,0,none⟩)] w fun e w'=>e=.returned (.bool P.chg)∧w'=w:=by
  have c0:=h.cb.c 0 _ rfl
  clear h
  unfold Pn.chg
  cases hb:(P.call == 3)
  · go_enter Tryz.func26,Tryz.ntmps26
    go_wp2_with fail
    go_ret
    exact ⟨rfl,rfl⟩
  · go_enter Tryz.func26,Tryz.ntmps26
    go_wp2_with fail
    go_ret
    exact ⟨rfl,rfl⟩
def noRec:Value:=.tuple #[.agg Hr.none.cells,.bool false]
theorem nothing_any (w:World):Calls Tryz.prog 31 #[] w fun e w'=>e=.returned noRec∧Only (fun _=>False) w w':=by
  have HN:=hide (Hb.new w Hr.none)
  go_enter Tryz.func31,Tryz.ntmps31
  go_wp2_with (first | (refine wpList_build_hnone rfl rfl ?_; go_frame) | (refine wpList_put_hr rfl (.tmp 0) (.tmp 2) rfl w.heap.size rfl Hr.none Hr.none rfl HN.out ?_; intro W9 HW9; go_frame))
  refine bodyPost_ret (results_hr rfl rfl HW9.out.at_) rfl ?_
  exact ⟨rfl,(onlyA w _).trans HW9.out.only (fun i hi e=>by omega)⟩
set_option maxHeartbeats 800000 in
theorem end_any (w:World) (Z:Nat→Prop) (p:Nat) (P:Pn) (h:Pm w Z p P) (er:Int) (f:Bool) (v:ByteArray) (ra:Option Addr) (L:List (ByteArray × ByteArray)) (rc:Nat) (hr:RowsAt w 0 (.slice ra L.length rc) L) (hz:∀ k,(Value.slice ra L.length rc).ownBlock=some k→Z k∧k≠p) :
    Calls Tryz.prog 33 #[.pointer (some ⟨p,0,none⟩),.agg #[.int .i64 er,.bool f,.string v,.slice ra L.length rc]] w fun e w'=>e=.returned (.tuple #[])∧Pm w' Z p (Pn.over er f v ra L rc)∧Only (fun k=>k=p) w w':=by
  have HH:=hide h
  have HR:=hide hr
  have HZ:=hide hz
  have HC:=hide ((h.more (onlyA w (.cells #[.int .i64 er,.bool f,.string v,.slice ra L.length rc] 55))).cb)
  have HO:=hide (onlyA w (.cells #[.int .i64 er,.bool f,.string v,.slice ra L.length rc] 55))
  clear h hr hz
  go_enter Tryz.func33,Tryz.ntmps33
  go_wp2_with (first | (refine wpList_build_over rfl (.tmp 5) (.tmp 6) rfl er f v ra L.length rc p L rfl rfl rfl ?_; go_frame) | (refine wpList_put_plan rfl (.tmp 8) (.tmp 7) rfl p rfl (P.cl p) rfl ((Pn.over er f v ra L rc).cl p) rfl rfl rfl HC.out ?_; intro W9 HW9; go_frame))
  refine bodyPost_end (results_none rfl _ _ _) rfl ?_
  have hz:Only (fun k=>k=p) w W9:=Op.none HO.out HW9.out.2
  have hr9:RowsAt W9 0 (.slice ra L.length rc) L:=(HR.out.more HO.out).kept HW9.out.2 (fun k hk e=>(HZ.out k hk).2 e)
  exact ⟨rfl,⟨HW9.out.1,HH.out.zp,fun b hb=>Nat.lt_of_lt_of_le (HH.out.zlt b hb) hz.size,hr9,HZ.out,0,Els.nil _ _ _,fun q=>absurd q (by simp [Pn.over])⟩,hz⟩
def Pn.fl (P:Pn) (e:Int):Pn:=if P.wk=4 then P else Pn.over e false ⟨#[]⟩ none [] 0
theorem RowsAt.none (w:World):RowsAt w 0 (.slice none 0 0) []:=GRow.nil _ _
theorem Fail_any (w:World) (Z:Nat→Prop) (p:Nat) (P:Pn) (h:Pm w Z p P) (e:Int) :
    Calls Tryz.prog 15 #[.pointer (some ⟨p,0,none⟩),.int .i64 e] w fun x w'=>x=.returned (.tuple #[])∧Pm w' Z p (P.fl e)∧Only (fun k=>k=p) w w':=by
  have HH:=hide h
  have HW:=hide (wants_any w Z p P h 4)
  have HE:=hide (end_any w Z p P h e false ⟨#[]⟩ none [] 0 (RowsAt.none _) (fun _ q=>by cases q))
  clear h
  unfold Pn.fl
  by_cases hk:P.wk=4
  · have hb:(P.wk == 4)=true:=by simp [hk]
    simp only [if_pos hk,hb] at HW ⊢
    clear hb hk
    go_enter Tryz.func15,Tryz.ntmps15
    go_wp2_with fail
    refine HW.out.mono ?_
    rintro x w1 ⟨rfl,rfl⟩
    go_wp2_with fail
    refine bodyPost_end (results_none rfl _ _ _) rfl ?_
    exact ⟨rfl,HH.out,Only.refl _ _⟩
  · have hb:(P.wk == 4)=false:=by simp [hk]
    simp only [if_neg hk,hb] at HW ⊢
    clear hb hk
    go_enter Tryz.func15,Tryz.ntmps15
    go_wp2_with fail
    refine HW.out.mono ?_
    rintro x w1 ⟨rfl,rfl⟩
    go_wp2_with fail
    refine HE.out.mono ?_
    rintro x w1 ⟨rfl,hp,ho⟩
    have HP:=hide hp
    have HO:=hide ho
    clear hp ho
    go_wp2_with fail
    refine bodyPost_end (results_none rfl _ _ _) rfl ?_
    exact ⟨rfl,HP.out,HO.out⟩
set_option maxHeartbeats 800000 in
theorem failS_any (w:World) (Z:Nat→Prop) (p:Nat) (P:Pn) (h:Pm w Z p P) (e:Int) :
    Calls Tryz.prog 63 #[.pointer (some ⟨p,0,none⟩),.int .i64 e] w fun x w'=>x=.returned noRec∧Pm w' Z p (P.fl e)∧Only (fun k=>k=p) w w':=by
  have HN:=hide (Hb.new w Hr.none)
  have HO:=hide (onlyA w (.cells Hr.none.cells 50))
  have HF:=hide (Fail_any _ Z p P (h.more HO.out) e)
  have HLZ:Hid (¬ Z w.heap.size):=fun e=>by have:=h.zlt _ e; omega
  have HLT:Hid (¬ w.heap.size=p):=fun e=>HLZ.out (by rw [e]; exact h.zp)
  clear h
  go_enter Tryz.func63,Tryz.ntmps63
  go_wp2_with fail
  refine HF.out.mono ?_
  rintro x w1 ⟨rfl,hp,ho⟩
  have HP:=hide hp
  have HN1:=hide (HN.out.kept ho HLT.out)
  have HO1:=hide (Op.none HO.out ho)
  clear hp ho HF HN HO
  go_wp2_with fail
  refine (nothing_any _).mono ?_
  rintro x w2 ⟨rfl,ho⟩
  have HP2:=hide (HP.out.more ho)
  have HN2:=hide (HN1.out.more ho)
  have HO2:=hide (Op.fst HO1.out ho)
  clear ho HP HN1 HO1
  unfold noRec
  go_wp2_with (refine wpList_put_hr rfl (.tmp 4) (.tmp 10) rfl w.heap.size rfl Hr.none Hr.none rfl HN2.out ?_; intro W9 HW9; go_frame)
  refine bodyPost_ret (results_hr rfl rfl HW9.out.at_) rfl ?_
  exact ⟨rfl,HP2.out.late HW9.out.only HLZ.out,Op.own HO2.out HW9.out.only (Nat.le_refl _)⟩
def Pn.dn (P:Pn) (e:En) (lv:Int) (f:Nat):Pn:={ P with te:=e,lv:=lv,seen:=0,th:=some f }
def Pn.go (P:Pn) (e:En) (lv:Int) (f:Nat):Pn:=(P.dn e lv f).see 1 92
set_option maxHeartbeats 800000 in
theorem goDown_any (w:World) (Z:Nat→Prop) (p:Nat) (P:Pn) (h:Pm w Z p P) (e:En) (lv:Int) (f:Nat) :
    Calls Tryz.prog 50 #[.pointer (some ⟨p,0,none⟩),.agg #[.string e.key,.int .i64 e.page,.int .i64 e.slot],.int .i64 lv,.func (.func f) #[.pointer (some ⟨p,0,none⟩)] #[]] w fun x w'=>x=.returned (.tuple #[])∧Pm w' Z p (P.go e lv f)∧Only (fun k=>k=p) w w':=by
  have hmf:∀ (fn:Fn) (first cap:Array Value) (w:World),(Instr.makeFunc fn first cap).run Tryz.prog w=.ok (.func fn first cap) w:=fun _ _ _ _=>rfl
  have HH:=hide (h.more (onlyA w (.cells #[.string e.key,.int .i64 e.page,.int .i64 e.slot] 89)))
  have HA:=hide (onlyA w (.cells #[.string e.key,.int .i64 e.page,.int .i64 e.slot] 89))
  have HX:Hid (∃ W,w.alloc (.cells #[.string e.key,.int .i64 e.page,.int .i64 e.slot] 89)=W∧W.cell? ⟨w.heap.size,0,none⟩=some (.string e.key)∧W.cell? ⟨w.heap.size,1,none⟩=some (.int .i64 e.page)∧W.cell? ⟨w.heap.size,2,none⟩=some (.int .i64 e.slot)) :=
    ⟨_,rfl,(Cb.new w [.string e.key,.int .i64 e.page,.int .i64 e.slot] 89).c 0 _ rfl,(Cb.new w [.string e.key,.int .i64 e.page,.int .i64 e.slot] 89).c 1 _ rfl,(Cb.new w [.string e.key,.int .i64 e.page,.int .i64 e.slot] 89).c 2 _ rfl⟩
  clear h
  go_enter Tryz.func50,Tryz.ntmps50
  go_upto_region 1 with fail
  obtain ⟨W,hW,d0,d1,d2⟩:=HX.out
  rw [hW] at HH HA ⊢
  clear hW HX
  have c11:=HH.out.cb.c 11 _ rfl
  have c12:=HH.out.cb.c 12 _ rfl
  have c13:=HH.out.cb.c 13 _ rfl
  have c14:=HH.out.cb.c 14 _ rfl
  have c15:=HH.out.cb.c 15 _ rfl
  have c16:=HH.out.cb.c 16 _ rfl
  have f11:=HH.out.cb.f 11
  have f12:=HH.out.cb.f 12
  have f13:=HH.out.cb.f 13
  have f14:=HH.out.cb.f 14
  have f15:=HH.out.cb.f 15
  have f16:=HH.out.cb.f 16
  go_wp2_with fail
  have HO:=((((((Only.put W p 11 (.string e.key)).puts 12 (.int .i64 e.page)).puts 13 (.int .i64 e.slot)).puts 14 (.int .i64 lv)).puts 15 (.int .i64 0)).puts 16 (.func (.func f) #[.pointer (some ⟨p,0,none⟩)] #[]))
  have HP:=HH.out.mod (Q:=P.dn e lv f) HO ((((((HH.out.cb.set 11 _).set 12 _).set 13 _).set 14 _).set 15 _).set 16 _) ⟨rfl,rfl,rfl⟩ ⟨rfl,rfl⟩
  refine (see_any _ Z p (P.dn e lv f) HP 1 92).mono ?_
  rintro x w1 ⟨rfl,hp,ho⟩
  have HP1:=hide hp
  have HO1:=hide (Op.two (Op.none HA.out HO) ho)
  clear hp ho HP HO c11 c12 c13 c14 c15 c16 f11 f12 f13 f14 f15 f16
  go_wp2_with fail
  refine bodyPost_end (results_none rfl _ _ _) rfl ?_
  exact ⟨rfl,HP1.out,HO1.out⟩
def Pn.frm (P:Pn):ByteArray:=if P.key=⟨#[]⟩ then ⟨#[0]⟩ else P.key
def Pn.lks (P:Pn):Pn:=P.go ⟨P.frm,0,0⟩ 0 51
set_option maxHeartbeats 800000 in
theorem looks_any (w:World) (Z:Nat→Prop) (p:Nat) (P:Pn) (h:Pm w Z p P) :
    Calls Tryz.prog 27 #[.pointer (some ⟨p,0,none⟩)] w fun x w'=>x=.returned (.tuple #[])∧Pm w' Z p P.lks∧Only (fun k=>k=p) w w':=by
  have hmf:∀ (fn:Fn) (first cap:Array Value) (w:World),(Instr.makeFunc fn first cap).run Tryz.prog w=.ok (.func fn first cap) w:=fun _ _ _ _=>rfl
  have c1:=h.cb.c 1 _ rfl
  have HG:=hide (fun (e:En)=>goDown_any w Z p P h e 0 51)
  unfold Pn.lks Pn.frm
  by_cases hk:P.key=⟨#[]⟩
  · rw [if_pos hk]
    rw [hk] at c1
    clear hk h
    go_enter Tryz.func27,Tryz.ntmps27
    go_wp2_with fail
    refine (HG.out ⟨⟨#[0]⟩,0,0⟩).mono ?_
    rintro x w1 ⟨rfl,hp,ho⟩
    have HP1:=hide hp
    have HO1:=hide ho
    clear hp ho c1
    go_wp2_with fail
    refine bodyPost_end (results_none rfl _ _ _) rfl ?_
    exact ⟨rfl,HP1.out,HO1.out⟩
  · rw [if_neg hk]
    have hb:=ba_neN hk
    have hb2:P.key.toList.isEmpty=false:=by
      rw [ByteArray.toList_eq]
      cases q:P.key.data.toList with
      | nil=>exact absurd (by cases hq:P.key; rw [hq] at q; simp at q; rw [q]) hk
      | cons a l=>rfl
    obtain ⟨K,hK⟩:=exq (P.key)
    rw [hK] at c1 hb hb2 ⊢
    clear hk h hK
    go_enter Tryz.func27,Tryz.ntmps27
    go_wp2_with fail
    refine (HG.out ⟨K,0,0⟩).mono ?_
    rintro x w1 ⟨rfl,hp,ho⟩
    have HP1:=hide hp
    have HO1:=hide ho
    clear hp ho c1
    go_wp2_with fail
    refine bodyPost_end (results_none rfl _ _ _) rfl ?_
    exact ⟨rfl,HP1.out,HO1.out⟩
def Pn.blw (P:Pn):ByteArray:=if P.call=5 then P.tok else P.key++⟨#[0]⟩
theorem belowP_any (w:World) (Z:Nat→Prop) (p:Nat) (P:Pn) (h:Pm w Z p P) (hk:P.key.size≤24) :
    Calls Tryz.prog 94 #[.pointer (some ⟨p,0,none⟩)] w fun e w'=>e=.returned (.string P.blw)∧w'=w:=by
  have c0:=h.cb.c 0 _ rfl
  have c1:=h.cb.c 1 _ rfl
  have c2:=h.cb.c 2 _ rfl
  have hk2:¬ 9223372036854775807 < P.key.size+1:=by omega
  clear h hk
  unfold Pn.blw
  by_cases hc:P.call=5
  · have hb:(P.call == 5)=true:=by simp [hc]
    rw [if_pos hc]
    clear hc
    go_enter Tryz.func94,Tryz.ntmps94
    go_wp2_with fail
    go_ret
    exact ⟨rfl,rfl⟩
  · have hb:(P.call == 5)=false:=by simp [hc]
    rw [if_neg hc]
    clear hc
    go_enter Tryz.func94,Tryz.ntmps94
    go_wp2_with fail
    go_ret
    exact ⟨rfl,rfl⟩
def Pn.lck (P:Pn) (got:Bool) (e:Int):Pn:=if P.wk=1 then (if e=0 then (if got=true then P.lks else P) else P.fl e) else P
theorem Lock_any (w:World) (Z:Nat→Prop) (p:Nat) (P:Pn) (h:Pm w Z p P) (g:Bool) (e:Int) :
    Calls Tryz.prog 17 #[.pointer (some ⟨p,0,none⟩),.bool g,.int .i64 e] w fun x w'=>x=.returned (.tuple #[])∧Pm w' Z p (P.lck g e)∧Only (fun k=>k=p) w w':=by
  have HH:=hide h
  have HW:=hide (wants_any w Z p P h 1)
  have HF:=hide (Fail_any w Z p P h e)
  have HL:=hide (looks_any w Z p P h)
  clear h
  unfold Pn.lck
  by_cases hk:P.wk=1
  · have hb:(P.wk == 1)=true:=by simp [hk]
    simp only [if_pos hk,hb] at HW ⊢
    clear hb hk
    by_cases he:e=0
    · subst he
      rw [if_pos rfl]
      cases g
      · rw [if_neg (by decide)]
        go_enter Tryz.func17,Tryz.ntmps17
        go_wp2_with fail
        refine HW.out.mono ?_
        rintro x w1 ⟨rfl,rfl⟩
        go_wp2_with fail
        refine bodyPost_end (results_none rfl _ _ _) rfl ?_
        exact ⟨rfl,HH.out,Only.refl _ _⟩
      · rw [if_pos rfl]
        go_enter Tryz.func17,Tryz.ntmps17
        go_wp2_with fail
        refine HW.out.mono ?_
        rintro x w1 ⟨rfl,rfl⟩
        go_wp2_with fail
        refine HL.out.mono ?_
        rintro x w1 ⟨rfl,hp,ho⟩
        have HP:=hide hp
        have HO:=hide ho
        clear hp ho
        go_wp2_with fail
        refine bodyPost_end (results_none rfl _ _ _) rfl ?_
        exact ⟨rfl,HP.out,HO.out⟩
    · rw [if_neg he]
      have hb:(e != 0)=true:=by simp [he]
      clear he
      go_enter Tryz.func17,Tryz.ntmps17
      go_wp2_with fail
      refine HW.out.mono ?_
      rintro x w1 ⟨rfl,rfl⟩
      go_wp2_with fail
      refine HF.out.mono ?_
      rintro x w1 ⟨rfl,hp,ho⟩
      have HP:=hide hp
      have HO:=hide ho
      clear hp ho
      go_wp2_with fail
      refine bodyPost_end (results_none rfl _ _ _) rfl ?_
      exact ⟨rfl,HP.out,HO.out⟩
  · have hb:(P.wk == 1)=false:=by simp [hk]
    simp only [if_neg hk,hb] at HW ⊢
    clear hb hk
    go_enter Tryz.func17,Tryz.ntmps17
    go_wp2_with fail
    refine HW.out.mono ?_
    rintro x w1 ⟨rfl,rfl⟩
    go_wp2_with fail
    refine bodyPost_end (results_none rfl _ _ _) rfl ?_
    exact ⟨rfl,HH.out,Only.refl _ _⟩
def Pn.spc (P:Pn) (g:Int):Pn:=if P.wk=2 then P.see g 36 else P
theorem Space_any (w:World) (Z:Nat→Prop) (p:Nat) (P:Pn) (h:Pm w Z p P) (g:Int) :
    Calls Tryz.prog 18 #[.pointer (some ⟨p,0,none⟩),.int .i64 g] w fun x w'=>x=.returned (.tuple #[])∧Pm w' Z p (P.spc g)∧Only (fun k=>k=p) w w':=by
  have hmf:∀ (fn:Fn) (first cap:Array Value) (w:World),(Instr.makeFunc fn first cap).run Tryz.prog w=.ok (.func fn first cap) w:=fun _ _ _ _=>rfl
  have HH:=hide h
  have HW:=hide (wants_any w Z p P h 2)
  have HS:=hide (see_any w Z p P h g 36)
  clear h
  unfold Pn.spc
  by_cases hk:P.wk=2
  · have hb:(P.wk == 2)=true:=by simp [hk]
    simp only [if_pos hk,hb] at HW ⊢
    clear hb hk
    go_enter Tryz.func18,Tryz.ntmps18
    go_wp2_with fail
    refine HW.out.mono ?_
    rintro x w1 ⟨rfl,rfl⟩
    go_wp2_with fail
    refine HS.out.mono ?_
    rintro x w1 ⟨rfl,hp,ho⟩
    have HP:=hide hp
    have HO:=hide ho
    clear hp ho
    go_wp2_with fail
    refine bodyPost_end (results_none rfl _ _ _) rfl ?_
    exact ⟨rfl,HP.out,HO.out⟩
  · have hb:(P.wk == 2)=false:=by simp [hk]
    simp only [if_neg hk,hb] at HW ⊢
    clear hb hk
    go_enter Tryz.func18,Tryz.ntmps18
    go_wp2_with fail
    refine HW.out.mono ?_
    rintro x w1 ⟨rfl,rfl⟩
    go_wp2_with fail
    refine bodyPost_end (results_none rfl _ _ _) rfl ?_
    exact ⟨rfl,HH.out,Only.refl _ _⟩
end Go.Proofs.YtajjakljheafjaaGreat
