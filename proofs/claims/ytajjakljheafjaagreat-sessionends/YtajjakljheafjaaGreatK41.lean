/- Parts. -/
import Derived.Test.YtajjakljheafjaaGreatK38
import Derived.Test.YtajjakljheafjaaGreatK40
set_option maxRecDepth 100000
namespace Go.Proofs.YtajjakljheafjaaGreat
open Go.RowKit
theorem ssisBound_any (w:World) (k:ByteArray):Calls Tryz.prog 49 #[.string k] w fun e w'=>e=.returned (.bool (decide (k.size≤24)))∧w'=w:=by
  cases hb:decide (k.size≤24)
  · have h1:¬ k.size≤24:=of_decide_eq_false hb
    have h2:decide ((k.size:Int)≤24)=false:=decide_eq_false (by omega)
    clear hb
    go_enter Tryz.func49,Tryz.ntmps49
    go_wp2_with fail
    go_ret
    exact ⟨rfl,rfl⟩
  · have h1:k.size≤24:=of_decide_eq_true hb
    have h2:decide ((k.size:Int)≤24)=true:=decide_eq_true (by omega)
    clear hb
    go_enter Tryz.func49,Tryz.ntmps49
    go_wp2_with fail
    go_ret
    exact ⟨rfl,rfl⟩
def keyB (k:ByteArray):Bool:=decide (¬ k=⟨#[]⟩) && decide (k.size≤24)
theorem ssisKey_any (w:World) (k:ByteArray):Calls Tryz.prog 48 #[.string k] w fun e w'=>e=.returned (.bool (keyB k))∧w'=w:=by
  unfold keyB
  by_cases hk:k=⟨#[]⟩
  · subst hk
    go_enter Tryz.func48,Tryz.ntmps48
    go_wp2_with fail
    go_ret
    exact ⟨rfl,rfl⟩
  · have hb:=ba_neN hk
    have hb2:k.toList.isEmpty=false:=by
      rw [ByteArray.toList_eq]
      cases q:k.data.toList with
      | nil=>exact absurd (by cases hq:k; rw [hq] at q; simp at q; rw [q]) hk
      | cons a l=>rfl
    have HI:=hide (ssisBound_any w k)
    rw [show decide (¬ k=⟨#[]⟩)=true from decide_eq_true hk,Bool.true_and]
    obtain ⟨X,hX⟩:=exq (decide (k.size≤24))
    rw [hX] at HI ⊢
    clear hk hX
    go_enter Tryz.func48,Tryz.ntmps48
    go_wp2_with fail
    refine HI.out.mono ?_
    rintro x w1 ⟨rfl,rfl⟩
    go_wp2_with fail
    go_ret
    exact ⟨rfl,rfl⟩
structure Aq where
  c:Int
  key:ByteArray
  tok:ByteArray
  val:ByteArray
  n:Int
abbrev Aq.ar (a:Aq):Array Value:=#[.int .u8 a.c,.string a.key,.string a.tok,.string a.val,.int .i64 a.n]
def Aq.ok (a:Aq) (own:Int):Bool :=
  if a.c=2 then keyB a.key else if a.c=3 then keyB a.key && (decide (a.val.size≤64) && decide (1≤own)) else if a.c=4 then keyB a.key && decide (1≤own)
  else if a.c=5 then decide (a.key.size≤24) && (decide (a.tok.size≤24) && (decide (1≤a.n) && decide (a.n≤16))) else false
set_option maxHeartbeats 1600000 in
theorem isSound_any (w:World) (a:Aq) (own:Int):Calls Tryz.prog 25 #[.agg a.ar,.int .i64 own] w fun e w'=>e=.returned (.bool (a.ok own))∧Only (fun _=>False) w w':=by
  have HO:=hide (onlyA w (.cells a.ar 24))
  have HB:=hide (Cb.new w a.ar.toList 24)
  have HK:=hide (fun W=>ssisKey_any W a.key)
  have HBK:=hide (fun W=>ssisBound_any W a.key)
  have HBT:=hide (fun W=>ssisBound_any W a.tok)
  obtain ⟨Y,hY⟩:=exq (a.ok own)
  rw [hY]
  have HY:=hide hY
  clear hY
  unfold Aq.ok at HY
  unfold Aq.ar at *
  obtain ⟨K,hK⟩:=exq (keyB a.key)
  rw [hK] at HK HY
  obtain ⟨BK,hBK⟩:=exq (decide (a.key.size≤24))
  rw [hBK] at HBK HY
  obtain ⟨BT,hBT⟩:=exq (decide (a.tok.size≤24))
  rw [hBT] at HBT HY
  clear hK hBK hBT
  obtain ⟨W0,hW0⟩:=exq (w.alloc (.cells #[.int .u8 a.c,.string a.key,.string a.tok,.string a.val,.int .i64 a.n] 24))
  rw [hW0] at HO
  rw [show w.alloc (.cells [Value.int .u8 a.c,.string a.key,.string a.tok,.string a.val,.int .i64 a.n].toArray 24)=W0 from hW0] at HB
  have HW0:=hide hW0
  clear hW0
  have a0:=HB.out.c 0 _ rfl
  have a1:=HB.out.c 1 _ rfl
  have a2:=HB.out.c 2 _ rfl
  have a3:=HB.out.c 3 _ rfl
  have a4:=HB.out.c 4 _ rfl
  by_cases hc2:a.c=2
  · have hb2:(a.c == 2)=true:=by simp [hc2]
    rw [if_pos hc2] at HY
    clear hc2
    go_enter Tryz.func25,Tryz.ntmps25
    go_upto_region 1 with fail
    rw [HW0.out]
    clear HW0
    go_wp2_with fail
    refine (HK.out _).mono ?_
    rintro x w1 ⟨rfl,h1⟩
    obtain rfl:=h1.symm
    go_wp2_with fail
    go_ret
    exact ⟨by rw [← HY.out]; rfl,HO.out⟩
  · by_cases hc3:a.c=3
    · have hb2:(a.c == 2)=false:=by simp [hc2]
      have hb3:(a.c == 3)=true:=by simp [hc3]
      rw [if_neg hc2,if_pos hc3] at HY
      clear hc2 hc3
      cases K
      · rw [Bool.false_and] at HY
        go_enter Tryz.func25,Tryz.ntmps25
        go_upto_region 1 with fail
        rw [HW0.out]
        clear HW0
        go_wp2_with fail
        refine (HK.out _).mono ?_
        rintro x w1 ⟨rfl,h1⟩
        obtain rfl:=h1.symm
        go_wp2_with fail
        go_ret
        exact ⟨by rw [← HY.out]; rfl,HO.out⟩
      · by_cases hv:a.val.size≤64
        · have hv2:decide ((a.val.size:Int)≤64)=true:=decide_eq_true (by omega)
          rw [show decide (a.val.size≤64)=true from decide_eq_true hv,Bool.true_and,Bool.true_and] at HY
          go_enter Tryz.func25,Tryz.ntmps25
          go_upto_region 1 with fail
          rw [HW0.out]
          clear HW0
          go_wp2_with fail
          refine (HK.out _).mono ?_
          rintro x w1 ⟨rfl,h1⟩
          obtain rfl:=h1.symm
          go_wp2_with fail
          go_ret
          exact ⟨by rw [← HY.out]; rfl,HO.out⟩
        · have hv2:decide ((a.val.size:Int)≤64)=false:=decide_eq_false (by omega)
          rw [show decide (a.val.size≤64)=false from decide_eq_false hv,Bool.false_and,Bool.true_and] at HY
          go_enter Tryz.func25,Tryz.ntmps25
          go_upto_region 1 with fail
          rw [HW0.out]
          clear HW0
          go_wp2_with fail
          refine (HK.out _).mono ?_
          rintro x w1 ⟨rfl,h1⟩
          obtain rfl:=h1.symm
          go_wp2_with fail
          go_ret
          exact ⟨by rw [← HY.out]; rfl,HO.out⟩
    · by_cases hc4:a.c=4
      · have hb2:(a.c == 2)=false:=by simp [hc2]
        have hb3:(a.c == 3)=false:=by simp [hc3]
        have hb4:(a.c == 4)=true:=by simp [hc4]
        rw [if_neg hc2,if_neg hc3,if_pos hc4] at HY
        clear hc2 hc3 hc4
        cases K
        · rw [Bool.false_and] at HY
          go_enter Tryz.func25,Tryz.ntmps25
          go_upto_region 1 with fail
          rw [HW0.out]
          clear HW0
          go_wp2_with fail
          refine (HK.out _).mono ?_
          rintro x w1 ⟨rfl,h1⟩
          obtain rfl:=h1.symm
          go_wp2_with fail
          go_ret
          exact ⟨by rw [← HY.out]; rfl,HO.out⟩
        · rw [Bool.true_and] at HY
          go_enter Tryz.func25,Tryz.ntmps25
          go_upto_region 1 with fail
          rw [HW0.out]
          clear HW0
          go_wp2_with fail
          refine (HK.out _).mono ?_
          rintro x w1 ⟨rfl,h1⟩
          obtain rfl:=h1.symm
          go_wp2_with fail
          go_ret
          exact ⟨by rw [← HY.out]; rfl,HO.out⟩
      · by_cases hc5:a.c=5
        · have hb2:(a.c == 2)=false:=by simp [hc2]
          have hb3:(a.c == 3)=false:=by simp [hc3]
          have hb4:(a.c == 4)=false:=by simp [hc4]
          have hb5:(a.c == 5)=true:=by simp [hc5]
          rw [if_neg hc2,if_neg hc3,if_neg hc4,if_pos hc5] at HY
          clear hc2 hc3 hc4 hc5
          cases BK
          · rw [Bool.false_and] at HY
            go_enter Tryz.func25,Tryz.ntmps25
            go_upto_region 1 with fail
            rw [HW0.out]
            clear HW0
            go_wp2_with fail
            refine (HBK.out _).mono ?_
            rintro x w1 ⟨rfl,h1⟩
            obtain rfl:=h1.symm
            go_wp2_with fail
            go_ret
            exact ⟨by rw [← HY.out]; rfl,HO.out⟩
          · rw [Bool.true_and] at HY
            cases BT
            · rw [Bool.false_and] at HY
              go_enter Tryz.func25,Tryz.ntmps25
              go_upto_region 1 with fail
              rw [HW0.out]
              clear HW0
              go_wp2_with fail
              refine (HBK.out _).mono ?_
              rintro x w1 ⟨rfl,h1⟩
              obtain rfl:=h1.symm
              go_wp2_with fail
              refine (HBT.out _).mono ?_
              rintro x w1 ⟨rfl,h1⟩
              obtain rfl:=h1.symm
              go_wp2_with fail
              go_ret
              exact ⟨by rw [← HY.out]; rfl,HO.out⟩
            · rw [Bool.true_and] at HY
              cases hn1:decide (1≤a.n)
              · rw [hn1,Bool.false_and] at HY
                go_enter Tryz.func25,Tryz.ntmps25
                go_upto_region 1 with fail
                rw [HW0.out]
                clear HW0
                go_wp2_with fail
                refine (HBK.out _).mono ?_
                rintro x w1 ⟨rfl,h1⟩
                obtain rfl:=h1.symm
                go_wp2_with fail
                refine (HBT.out _).mono ?_
                rintro x w1 ⟨rfl,h1⟩
                obtain rfl:=h1.symm
                go_wp2_with fail
                go_ret
                exact ⟨by rw [← HY.out]; rfl,HO.out⟩
              · rw [hn1,Bool.true_and] at HY
                go_enter Tryz.func25,Tryz.ntmps25
                go_upto_region 1 with fail
                rw [HW0.out]
                clear HW0
                go_wp2_with fail
                refine (HBK.out _).mono ?_
                rintro x w1 ⟨rfl,h1⟩
                obtain rfl:=h1.symm
                go_wp2_with fail
                refine (HBT.out _).mono ?_
                rintro x w1 ⟨rfl,h1⟩
                obtain rfl:=h1.symm
                go_wp2_with fail
                go_ret
                exact ⟨by rw [← HY.out]; rfl,HO.out⟩
        · have hb2:(a.c == 2)=false:=by simp [hc2]
          have hb3:(a.c == 3)=false:=by simp [hc3]
          have hb4:(a.c == 4)=false:=by simp [hc4]
          have hb5:(a.c == 5)=false:=by simp [hc5]
          rw [if_neg hc2,if_neg hc3,if_neg hc4,if_neg hc5] at HY
          clear hc2 hc3 hc4 hc5
          go_enter Tryz.func25,Tryz.ntmps25
          go_upto_region 1 with fail
          rw [HW0.out]
          clear HW0
          go_wp2_with fail
          go_ret
          exact ⟨by rw [← HY.out]; rfl,HO.out⟩
def Pn.start (a:Aq) (own:Int):Pn:=⟨a.c,a.key,a.tok,a.val,a.n,own,0,⟨#[]⟩,0,0,none,noE,0,0,none,none,[],0,false,0,noE,⟨#[]⟩,0,false,⟨#[]⟩,none,[],0⟩
theorem run_build_start (w:World) (a:Aq) (own:Int) (p:Nat) :
    (Instr.build 96 #[(0,.agg #[.int .u8 a.c,.string a.key,.string a.tok,.string a.val,.int .i64 a.n]),(1,.int .i64 own)]).run Tryz.prog w=.ok (.agg ((Pn.start a own).cl p).toArray) w :=
  run_build w 96 _ _ (by kernel_rfl)
theorem wpList_build_start {ops:Array Oper} {rest:List Oper} {o:Oper} {a:Act} {w:World} {Q:Exit→Act→World→Prop} (hg:o.guard=none) (a0 a1:Operand) (hop:o.op=.build 96 #[(0,a0),(1,a1)]) (q:Aq) (own:Int) (p:Nat) (h0:a.eval a0=.agg #[.int .u8 q.c,.string q.key,.string q.tok,.string q.val,.int .i64 q.n]) (h1:a.eval a1=.int .i64 own)
    (h:wpList Tryz.prog ops Q rest (a.put o.dst (.agg ((Pn.start q own).cl p).toArray)) w):wpList Tryz.prog ops Q (o :: rest) a w:=by
  refine wpList_plain hg fun K hK=>?_
  unfold Oper.wp execOp
  have e:(#[(0,a0),(1,a1)]:Array (Nat × Operand)).map (fun x=>(x.1,a.eval x.2))=#[(0,.agg #[.int .u8 q.c,.string q.key,.string q.tok,.string q.val,.int .i64 q.n]),(1,.int .i64 own)]:=by
    simp only [List.map_toArray,List.map_cons,List.map_nil,h0,h1]
  simp only [hop,e,Sem.run_bind,Sem.run_pure,Result.andThen_ok,run_build_start w q own p]
  exact hK _ _ h
theorem Pm.start (w:World) (a:Aq) (own:Int) (t:TypeId):Pm (w.alloc (.cells ((Pn.start a own).cl w.heap.size).toArray t)) (fun k=>k=w.heap.size) w.heap.size (Pn.start a own) :=
  ⟨Cb.new w _ _,rfl,(fun b hb=>by rw [hb]; simp),GRow.nil _ _,(fun k hk=>by cases hk),0,Els.nil _ _ _,fun q=>absurd q (by simp [Pn.start])⟩
def Pn.begun (a:Aq) (own:Int):Pn:=if (Pn.start a own).chg=true then { Pn.start a own with wk:=1,wkey:=a.key } else (Pn.start a own).lks
def NwR (w w':World) (e:Ending) (P:Pn):Prop:=∃ p,w.heap.size≤p∧e=.returned (.tuple #[.pointer (some ⟨p,0,none⟩),.int .i64 0])∧Pm w' (fun k=>k=p) p P∧Only (fun _=>False) w w'
theorem New_no (w:World) (a:Aq) (own:Int) (hk:a.ok own=false):Calls Tryz.prog 9 #[.agg a.ar,.int .i64 own] w fun e w'=>e=.returned (.tuple #[.pointer none,.int .i64 1])∧Only (fun _=>False) w w':=by
  have HO:=hide (onlyA w (.cells a.ar 24))
  have HB:=hide (Cb.new w a.ar.toList 24)
  have HS:=hide (fun W=>isSound_any W a own)
  rw [hk] at HS
  clear hk
  unfold Aq.ar at *
  go_enter Tryz.func9,Tryz.ntmps9
  go_upto_region 1 with fail
  obtain ⟨W0,hW0⟩:=exq (w.alloc (.cells #[.int .u8 a.c,.string a.key,.string a.tok,.string a.val,.int .i64 a.n] 24))
  rw [hW0] at HO ⊢
  rw [show w.alloc (.cells [Value.int .u8 a.c,.string a.key,.string a.tok,.string a.val,.int .i64 a.n].toArray 24)=W0 from hW0] at HB
  clear hW0
  have a0:=HB.out.c 0 _ rfl
  have a1:=HB.out.c 1 _ rfl
  have a2:=HB.out.c 2 _ rfl
  have a3:=HB.out.c 3 _ rfl
  have a4:=HB.out.c 4 _ rfl
  go_wp2_with fail
  refine (HS.out _).mono ?_
  rintro x w1 ⟨rfl,ho⟩
  have HO1:=hide (o2 HO.out ho)
  clear ho
  go_wp2_with fail
  go_ret2
  exact ⟨rfl,HO1.out⟩
set_option maxHeartbeats 1600000 in
theorem New_ok (w:World) (a:Aq) (own:Int) (hk:a.ok own=true):Calls Tryz.prog 9 #[.agg a.ar,.int .i64 own] w fun e w'=>NwR w w' e (Pn.begun a own):=by
  have HO:=hide (onlyA w (.cells a.ar 24))
  have HB:=hide (Cb.new w a.ar.toList 24)
  have HS:=hide (fun W=>isSound_any W a own)
  rw [hk] at HS
  clear hk
  unfold Aq.ar at *
  go_enter Tryz.func9,Tryz.ntmps9
  go_upto_region 1 with fail
  obtain ⟨W0,hW0⟩:=exq (w.alloc (.cells #[.int .u8 a.c,.string a.key,.string a.tok,.string a.val,.int .i64 a.n] 24))
  rw [hW0] at HO ⊢
  rw [show w.alloc (.cells [Value.int .u8 a.c,.string a.key,.string a.tok,.string a.val,.int .i64 a.n].toArray 24)=W0 from hW0] at HB
  clear hW0
  have a0:=HB.out.c 0 _ rfl
  have a1:=HB.out.c 1 _ rfl
  have a2:=HB.out.c 2 _ rfl
  have a3:=HB.out.c 3 _ rfl
  have a4:=HB.out.c 4 _ rfl
  go_wp2_with fail
  refine (HS.out _).mono ?_
  rintro x w1 ⟨rfl,ho⟩
  have HO1:=hide (o2 HO.out ho)
  have HB1:=hide (HB.out.more ho)
  clear ho a0 a1 a2 a3 a4 HB HO HS
  have a0:=HB1.out.c 0 _ rfl
  have a1:=HB1.out.c 1 _ rfl
  have a2:=HB1.out.c 2 _ rfl
  have a3:=HB1.out.c 3 _ rfl
  have a4:=HB1.out.c 4 _ rfl
  go_upto_region 4 with (refine wpList_build_start rfl (.tmp 11) (.tmp 12) rfl a own w1.heap.size rfl rfl ?_; go_frame)
  obtain ⟨W2,hW2⟩:=exq (w1.alloc (.cells ((Pn.start a own).cl w1.heap.size).toArray 96))
  have HP:Hid (Pm W2 (fun k=>k=w1.heap.size) w1.heap.size (Pn.start a own)):=by rw [← hW2]; exact Pm.start w1 a own 96
  have HO2:Hid (Only (fun _=>False) w1 W2):=by rw [← hW2]; exact onlyA _ _
  rw [hW2]
  clear hW2 a0 a1 a2 a3 a4
  obtain ⟨p,hp⟩:=exq (w1.heap.size)
  rw [hp] at HP ⊢
  have HWP:Hid (w.heap.size≤p):=by have:=HO1.out.size; unfold Hid; omega
  have HPW:Hid (w1.heap.size=p):=hp
  clear hp
  have HC:=hide (changes_any W2 _ p _ HP.out)
  have HL:=hide (looks_any W2 _ p _ HP.out)
  cases hc:(Pn.start a own).chg
  · have HCE:=hide hc
    rw [hc] at HC
    clear hc
    go_wp2_with fail
    refine HC.out.mono ?_
    rintro x w3 ⟨rfl,h3⟩
    obtain rfl:=h3.symm
    go_wp2_with fail
    refine HL.out.mono ?_
    rintro x w4 ⟨rfl,hp,ho⟩
    have HP4:=hide hp
    have HO4:=hide ho
    clear hp ho
    go_wp2_with fail
    go_ret2
    refine ⟨p,HWP.out,rfl,?_,(o2 HO1.out HO2.out).trans HO4.out (fun i hi e=>by have:=HWP.out; omega)⟩
    unfold Pn.begun
    rw [HCE.out,if_neg (by decide)]
    exact HP4.out
  · have HCE:=hide hc
    rw [hc] at HC
    clear hc HL
    have HB2:=hide (HB1.out.more HO2.out)
    go_wp2_with fail
    refine HC.out.mono ?_
    rintro x w3 ⟨rfl,h3⟩
    obtain rfl:=h3.symm
    have a1:=HB2.out.c 1 _ rfl
    have c6:=HP.out.cb.c 6 _ rfl
    have c7:=HP.out.cb.c 7 _ rfl
    have c8:=HP.out.cb.c 8 _ rfl
    have c9:=HP.out.cb.c 9 _ rfl
    have f6:=HP.out.cb.f 6
    have f7:=HP.out.cb.f 7
    have f8:=HP.out.cb.f 8
    have f9:=HP.out.cb.f 9
    go_wp2_with fail
    go_ret2
    have HX:=((((Only.put W2 p 6 (.int .i64 1)).puts 7 (.string a.key)).puts 8 (.int .i64 0)).puts 9 (.int .i64 0))
    refine ⟨p,HWP.out,rfl,?_,(o2 HO1.out HO2.out).trans HX (fun i hi e=>by have:=HWP.out; omega)⟩
    unfold Pn.begun
    rw [HCE.out,if_pos rfl]
    exact HP.out.mod HX ((((HP.out.cb.set 6 _).set 7 _).set 8 _).set 9 _) ⟨rfl,rfl,rfl⟩ ⟨rfl,rfl⟩
theorem Cb.putF {w:World} {b:Nat} {cs:List Value} (h:Cb w b cs) (ds:List Value) (hl:ds.length=cs.length):Cb (w.setCells b 0 ds) b ds:=by
  have q:=Cb.sets (c1:=[]) (c2:=cs) (c3:=[]) (by simpa using h) ds hl
  simpa using q
set_option maxHeartbeats 1600000 in
theorem mark_step (w:World) (Z:Nat→Prop) (p:Nat) (P:Pn) (h:Pm w Z p P) (hown:I64 P.own) (V:Vv) (B:Pv) (fa:Option Addr) (fn fc:Nat) (R:Hr) (c:Int)
    (hM:∀ W,Only (fun _=>False) w W→Calls Tryz.prog 183 #[.agg B.ar,.int .i64 P.wp,.int .i64 P.old.slot,.int .i64 P.own] W fun x w'=>x=.returned (.tuple #[.agg R.cells,.int .i64 c])∧Only (fun _=>False) W w') :
    Calls Tryz.prog 164 #[.pointer (some ⟨p,0,none⟩),.agg V.ar,.agg B.ar,.slice fa fn fc] w (SQ w Z p (fun P' cs is=>if c=0 then P'=P.gon∧is=true∧cs=R.cl else P'=P.fl c∧is=false∧cs=Hr.none.cl)):=by
  have H3:=hide (St3.new w V B)
  have HH:=hide (h.more H3.out.only)
  have HM:=hide hM
  have HOW:=hide hown
  have HZW:=hide h.zlt
  have HZP:Hid (Z p):=h.zp
  clear h hM hown
  unfold Vv.ar Pv.ar at *
  have HNR:Hid (¬ Z (w.heap.size+1+1)):=fun q=>by have:=HZW.out _ q; omega
  go_enter Tryz.func164,Tryz.ntmps164
  go_upto_region 1 with fail
  obtain ⟨W0,hW0⟩:=exq (((w.alloc (.cells #[.int .i64 V.m,.int .i64 V.nx,.slice V.aA V.nA V.cA,.int .i64 V.ow,.slice V.aR V.nR V.cR,.int .i64 V.l,.int .i64 V.k,.int .i64 V.v,.int .i64 V.r,.string V.h,.slice V.aP V.nP V.cP] 42)).alloc (.cells #[.int .i64 B.a,.int .i64 B.k,.int .i64 B.v,.int .i64 B.r,.string B.h,.slice B.ao B.n B.cp] 37)).alloc (.cells Hr.none.cells 50))
  rw [hW0] at H3 HH ⊢
  clear hW0
  refine wp_region_noPanic ?_
  refine wp_region_held_drew (S:=fun W=>Only (fun _=>False) W0 W) (by kernel_rfl) (Only.drew _ _) (fun hHeld=>?_)
  refine tkQ 0 (.agg #[.int .i64 B.a,.int .i64 B.k,.int .i64 B.v,.int .i64 B.r,.string B.h,.slice B.ao B.n B.cp]) rfl (yieldsIf_load_page (by rfl) _ rfl _ rfl (fun W hW=>(H3.out.more hW).pb.pag)) ?_
  refine tkP 1 (.pointer (some ⟨p,0,none⟩)) rfl ?_
  refine tkP 6 (.pointer (some ⟨p,0,none⟩)) rfl ?_
  refine tkP 11 (.pointer (some ⟨p,0,none⟩)) rfl ?_
  refine tkP 2 (.pointer (some ⟨p,0,none⟩)) rfl ?_
  refine tkP 7 (.pointer (some ⟨p,0,none⟩)) rfl ?_
  refine tkP 12 (.pointer (some ⟨p,0,none⟩)) rfl ?_
  refine tkP 3 (.pointer (some ⟨p,6,none⟩)) rfl ?_
  refine tkP 8 (.pointer (some ⟨p,20,none⟩)) rfl ?_
  refine tkP 13 (.pointer (some ⟨p,5,none⟩)) rfl ?_
  refine tkP 4 (.pointer (some ⟨p,9,none⟩)) rfl ?_
  refine tkP 9 (.pointer (some ⟨p,22,none⟩)) rfl ?_
  refine tkQ 14 (.int .i64 P.own) rfl (yieldsIf_load_cell (by rfl) 3 _ rfl _ rfl (fun W hW=>(HH.out.more hW).cb.c 5 _ rfl) (fun W hc=>ld_int hc)) ?_
  refine tkQ 5 (.int .i64 P.wp) rfl (yieldsIf_load_cell (by rfl) 3 _ rfl _ rfl (fun W hW=>(HH.out.more hW).cb.c 9 _ rfl) (fun W hc=>ld_int hc)) ?_
  refine tkQ 10 (.int .i64 P.old.slot) rfl (yieldsIf_load_cell (by rfl) 3 _ rfl _ rfl (fun W hW=>(HH.out.more hW).cb.c 22 _ rfl) (fun W hc=>ld_int hc)) ?_
  refine wpAnyH_ready (rs:=[15,19]) (by kernel_rfl) (by simp) ?_
  refine arC rfl (fun K hK=>?_) (arC rfl (fun K hK=>?_) (AllReadyH.nil))
  · go_simp
    refine (HM.out _ (o2 H3.out.only hHeld)).mono ?_
    rintro x w2 ⟨rfl,ho⟩
    have HO2:=hide (o2 hHeld ho)
    clear ho
    refine hK.out _ _ (HO2.out) (fun hHeld=>?_)
    clear hK K
    try simp only [Act.put,lsA,lsB,lsC]
    refine tkP 16 (.tuple #[.agg R.cells,.int .i64 c]) rfl ?_
    refine tkP 17 (.agg R.cells) rfl ?_
    refine tkP 18 (.int .i64 c) rfl ?_
    refine rd1 19 rfl (fun K hK=>?_)
    go_simp
    have HCB:=hide (Cb.new w2 Hr.none.cl 50)
    have HO3:=hide (o2 HO2.out (onlyA w2 (.cells Hr.none.cells 50)))
    refine hK.out _ _ (HO3.out) (fun hHeld=>?_)
    clear hK K
    try simp only [Act.put,lsA,lsB,lsC]
    refine rd1 20 rfl (fun K hK=>?_)
    rw [if_pos (by rfl)]
    have HTH:Hid ((w2.alloc (.cells Hr.none.cells 50)).there w2.heap.size 0 R.cells.size):=by exact HCB.out.rg.there
    refine wp_store_mid 50 (.tmp 10) (.tmp 29) rfl w2.heap.size 0 R.cells rfl rfl HTH.out Tryz.sizeRecF (by simp [Value.oneCell']) ?_
    have HLB:Hid (W0.heap.size≤w2.heap.size):=HO2.out.size
    have HC4:Hid (Cb ((w2.alloc (.cells Hr.none.cells 50)).setCells w2.heap.size 0 R.cl) w2.heap.size R.cl):=Cb.putF HCB.out R.cl rfl
    have HO4:Hid (Only (fun _=>False) W0 ((w2.alloc (.cells Hr.none.cells 50)).setCells w2.heap.size 0 R.cl)):=(HO3.out).trans (only_setCells w2.heap.size R.cl 0 (w2.alloc (.cells Hr.none.cells 50))) (fun i hi e=>by have:=HLB.out; omega)
    refine hK.out _ _ (HO4.out) (fun hHeld=>?_)
    clear hK K
    simp only [Act.put]
    refine tkP 21 (.int .i64 c) rfl ?_
    refine dnN ?_
    obtain ⟨w4,hw4⟩:=exq ((w2.alloc (.cells Hr.none.cells 50)).setCells w2.heap.size 0 R.cl)
    rw [hw4] at HC4 HO4
    rw [show (w2.alloc (.cells Hr.none.cells 50)).setCells w2.heap.size 0 R.cells.toList=w4 from hw4]
    clear hw4 HCB HTH hHeld
    have HSZ2:Hid (w.heap.size+1+1 < w2.heap.size):=Nat.lt_of_lt_of_le H3.out.rb.lt HLB.out
    obtain ⟨b,hb⟩:=exq (w2.heap.size)
    rw [hb] at HC4 HSZ2 ⊢
    clear hb HLB
    have HP4:=hide (HH.out.more HO4.out)
    have HR4:=hide (H3.out.rb.more HO4.out)
    have HOA:=hide (o2 H3.out.only HO4.out)
    have HNB:Hid (¬ b=p):=fun e=>by have:=HZW.out p HZP.out; have:=HSZ2.out; omega
    clear HH H3
    by_cases hc:c=0
    · have hb:(c != 0)=false:=by simp [hc]
      have HC0:=hide hc
      clear hc
      have HG:=hide (goOn_any w4 Z p P HP4.out HOW.out)
      go_wp2_with fail
      refine HG.out.mono ?_
      rintro x w5 ⟨rfl,hp,ho⟩
      have HP5:=hide hp
      have HO5:=hide ho
      have HR5:=hide (HR4.out.kept ho (fun q=>HNR.out (by rw [q]; exact HZP.out)))
      have HC5:=hide (HC4.out.kept ho HNB.out)
      clear hp ho HG
      have r0:=HC5.out.c 0 _ rfl
      have r1:=HC5.out.c 1 _ rfl
      have r2:=HC5.out.c 2 _ rfl
      have r3:=HC5.out.c 3 _ rfl
      have r4:=HC5.out.c 4 _ rfl
      have r5:=HC5.out.c 5 _ rfl
      have r6:=HC5.out.c 6 _ rfl
      have r7:=HC5.out.c 7 _ rfl
      have r8:=HC5.out.c 8 _ rfl
      have r9:=HC5.out.c 9 _ rfl
      have r10:=HC5.out.c 10 _ rfl
      have r11:=HC5.out.c 11 _ rfl
      have r12:=HC5.out.c 12 _ rfl
      have r13:=HC5.out.c 13 _ rfl
      have r14:=HC5.out.c 14 _ rfl
      have r15:=HC5.out.c 15 _ rfl
      go_wp2_with (refine wpList_put_cb rfl 50 (.tmp 8) (.tmp 40) rfl (w.heap.size+1+1) rfl Hr.none.cl R.cl rfl Tryz.sizeRecF rfl rfl HR5.out ?_; intro W9 HW9; go_frame)
      refine bodyPost_ret (results_cb16 rfl rfl HW9.out.1 rfl) rfl ?_
      refine ⟨Z,P.gon,R.cl,true,⟨rfl,rfl,rfl⟩,fun _ _ q=>q,HP5.out.late HW9.out.2 HNR.out,?_,?_⟩
      · exact (((HOA.out.mono (fun _ _ e=>e.elim)).trans (HO5.out.mono (fun k _ e=>by rw [e]; exact HZP.out)) (fun _ _ e=>e)).trans (HW9.out.2) (fun i hi e=>by omega))
      · exact ⟨rfl,rfl,rfl⟩
    · have hb:(c != 0)=true:=by simp [hc]
      have HC0:=hide hc
      clear hc
      have HF:=hide (failS_any w4 Z p P HP4.out c)
      go_wp2_with fail
      refine HF.out.mono ?_
      rintro x w5 ⟨rfl,hp,ho⟩
      have HP5:=hide hp
      have HO5:=hide ho
      have HR5:=hide (HR4.out.kept ho (fun q=>HNR.out (by rw [q]; exact HZP.out)))
      clear hp ho HF
      unfold noRec
      go_wp2_with (refine wpList_put_cb rfl 50 (.tmp 8) (.tmp 36) rfl (w.heap.size+1+1) rfl Hr.none.cl Hr.none.cl rfl Tryz.sizeRecF rfl rfl HR5.out ?_; intro W9 HW9; go_frame)
      refine bodyPost_ret (results_cb16 rfl rfl HW9.out.1 rfl) rfl ?_
      refine ⟨Z,P.fl c,Hr.none.cl,false,⟨rfl,rfl,rfl⟩,fun _ _ q=>q,HP5.out.late HW9.out.2 HNR.out,?_,?_⟩
      · exact (((HOA.out.mono (fun _ _ e=>e.elim)).trans (HO5.out.mono (fun k _ e=>by rw [e]; exact HZP.out)) (fun _ _ e=>e)).trans (HW9.out.2) (fun i hi e=>by omega))
      · exact ⟨rfl,rfl,rfl⟩
  · go_simp
    refine hK.out _ _ (o2 hHeld (onlyA _ _)) (fun hHeld=>?_)
    clear hK K
    try simp only [Act.put,lsA,lsB,lsC]
    refine rd1 15 rfl (fun K hK=>?_)
    go_simp
    refine (HM.out _ (o2 H3.out.only hHeld)).mono ?_
    rintro x w2 ⟨rfl,ho⟩
    have HO2:=hide (o2 hHeld ho)
    have HCB:=hide ((Cb.new W0.drew Hr.none.cl 50).more ho)
    clear ho
    refine hK.out _ _ (HO2.out) (fun hHeld=>?_)
    clear hK K
    try simp only [Act.put,lsA,lsB,lsC]
    refine tkP 16 (.tuple #[.agg R.cells,.int .i64 c]) rfl ?_
    refine tkP 17 (.agg R.cells) rfl ?_
    refine tkP 18 (.int .i64 c) rfl ?_
    refine rd1 20 rfl (fun K hK=>?_)
    rw [if_pos (by rfl)]
    have HTH:Hid (w2.there W0.heap.size 0 R.cells.size):=by exact HCB.out.rg.there
    refine wp_store_mid 50 (.tmp 10) (.tmp 29) rfl W0.heap.size 0 R.cells rfl rfl HTH.out Tryz.sizeRecF (by simp [Value.oneCell']) ?_
    have HLB:Hid (W0.heap.size≤W0.heap.size):=Nat.le_refl _
    have HC4:Hid (Cb (w2.setCells W0.heap.size 0 R.cl) W0.heap.size R.cl):=Cb.putF HCB.out R.cl rfl
    have HO4:Hid (Only (fun _=>False) W0 (w2.setCells W0.heap.size 0 R.cl)):=(HO2.out).trans (only_setCells W0.heap.size R.cl 0 w2) (fun i hi e=>by have:=HLB.out; omega)
    refine hK.out _ _ (HO4.out) (fun hHeld=>?_)
    clear hK K
    simp only [Act.put]
    refine tkP 21 (.int .i64 c) rfl ?_
    refine dnN ?_
    obtain ⟨w4,hw4⟩:=exq (w2.setCells W0.heap.size 0 R.cl)
    rw [hw4] at HC4 HO4
    rw [show w2.setCells W0.heap.size 0 R.cells.toList=w4 from hw4]
    clear hw4 HCB HTH hHeld
    have HSZ2:Hid (w.heap.size+1+1 < W0.heap.size):=Nat.lt_of_lt_of_le H3.out.rb.lt HLB.out
    obtain ⟨b,hb⟩:=exq (W0.heap.size)
    rw [hb] at HC4 HSZ2 ⊢
    clear hb HLB
    have HP4:=hide (HH.out.more HO4.out)
    have HR4:=hide (H3.out.rb.more HO4.out)
    have HOA:=hide (o2 H3.out.only HO4.out)
    have HNB:Hid (¬ b=p):=fun e=>by have:=HZW.out p HZP.out; have:=HSZ2.out; omega
    clear HH H3
    by_cases hc:c=0
    · have hb:(c != 0)=false:=by simp [hc]
      have HC0:=hide hc
      clear hc
      have HG:=hide (goOn_any w4 Z p P HP4.out HOW.out)
      go_wp2_with fail
      refine HG.out.mono ?_
      rintro x w5 ⟨rfl,hp,ho⟩
      have HP5:=hide hp
      have HO5:=hide ho
      have HR5:=hide (HR4.out.kept ho (fun q=>HNR.out (by rw [q]; exact HZP.out)))
      have HC5:=hide (HC4.out.kept ho HNB.out)
      clear hp ho HG
      have r0:=HC5.out.c 0 _ rfl
      have r1:=HC5.out.c 1 _ rfl
      have r2:=HC5.out.c 2 _ rfl
      have r3:=HC5.out.c 3 _ rfl
      have r4:=HC5.out.c 4 _ rfl
      have r5:=HC5.out.c 5 _ rfl
      have r6:=HC5.out.c 6 _ rfl
      have r7:=HC5.out.c 7 _ rfl
      have r8:=HC5.out.c 8 _ rfl
      have r9:=HC5.out.c 9 _ rfl
      have r10:=HC5.out.c 10 _ rfl
      have r11:=HC5.out.c 11 _ rfl
      have r12:=HC5.out.c 12 _ rfl
      have r13:=HC5.out.c 13 _ rfl
      have r14:=HC5.out.c 14 _ rfl
      have r15:=HC5.out.c 15 _ rfl
      go_wp2_with (refine wpList_put_cb rfl 50 (.tmp 8) (.tmp 40) rfl (w.heap.size+1+1) rfl Hr.none.cl R.cl rfl Tryz.sizeRecF rfl rfl HR5.out ?_; intro W9 HW9; go_frame)
      refine bodyPost_ret (results_cb16 rfl rfl HW9.out.1 rfl) rfl ?_
      refine ⟨Z,P.gon,R.cl,true,⟨rfl,rfl,rfl⟩,fun _ _ q=>q,HP5.out.late HW9.out.2 HNR.out,?_,?_⟩
      · exact (((HOA.out.mono (fun _ _ e=>e.elim)).trans (HO5.out.mono (fun k _ e=>by rw [e]; exact HZP.out)) (fun _ _ e=>e)).trans (HW9.out.2) (fun i hi e=>by omega))
      · exact ⟨rfl,rfl,rfl⟩
    · have hb:(c != 0)=true:=by simp [hc]
      have HC0:=hide hc
      clear hc
      have HF:=hide (failS_any w4 Z p P HP4.out c)
      go_wp2_with fail
      refine HF.out.mono ?_
      rintro x w5 ⟨rfl,hp,ho⟩
      have HP5:=hide hp
      have HO5:=hide ho
      have HR5:=hide (HR4.out.kept ho (fun q=>HNR.out (by rw [q]; exact HZP.out)))
      clear hp ho HF
      unfold noRec
      go_wp2_with (refine wpList_put_cb rfl 50 (.tmp 8) (.tmp 36) rfl (w.heap.size+1+1) rfl Hr.none.cl Hr.none.cl rfl Tryz.sizeRecF rfl rfl HR5.out ?_; intro W9 HW9; go_frame)
      refine bodyPost_ret (results_cb16 rfl rfl HW9.out.1 rfl) rfl ?_
      refine ⟨Z,P.fl c,Hr.none.cl,false,⟨rfl,rfl,rfl⟩,fun _ _ q=>q,HP5.out.late HW9.out.2 HNR.out,?_,?_⟩
      · exact (((HOA.out.mono (fun _ _ e=>e.elim)).trans (HO5.out.mono (fun k _ e=>by rw [e]; exact HZP.out)) (fun _ _ e=>e)).trans (HW9.out.2) (fun i hi e=>by omega))
      · exact ⟨rfl,rfl,rfl⟩
def InsR (w w':World) (x:Ending) (a r:Int) (h:ByteArray) (hi:En) (l:List ByteArray) (es:List En) (e:En):Prop :=
  ∃ B ao cp,x=.returned (.tuple #[.agg #[.int .i64 a,.int .i64 3,.int .i64 0,.int .i64 r,.string h,.slice ao (insI l es e).length cp],.int .i64 0])∧Lp w' r h hi B ao (insI l es e) (insE es e)∧Fit ao (insI l es e).length cp∧Only (fun _=>False) w w'∧w.heap.size≤B
theorem insI_len (l:List ByteArray) (es:List En) (e:En):(insI l es e).length=l.length+1:=by
  unfold insI
  simp only [List.length_append,List.length_cons,List.length_take,List.length_drop]
  omega
theorem InsQ.fits {w w':World} {x:Ending} {a r:Int} {h:ByteArray} {hi e:En} {l:List ByteArray} {es:List En} {B:Nat} {ao:Option Addr} (q:InsQ w w' x a r h hi e l es) (hP:Lp w r h hi B ao l es) (ho:e.ok=true) (hb:byd hi e=false) (hn:e ∉ es) (hf:¬ (255 < (insI l es e).length∨512 < 20+h.size+isz (insI l es e))):InsR w w' x a r h hi l es e:=by
  obtain ⟨B5,ao5,cp5,rfl,hS5,hF5,ho5,hB5⟩:=(q.good ho hb hn).2 hf
  have hl:=insI_len l es e
  refine ⟨B5,ao5,cp5,rfl,⟨hS5,hP.right,hP.high,hP.lf.ins ho hb hn,by omega⟩,hF5,ho5,hB5 (by show 0 < (insI l es e).length; omega)⟩
def eA:En:=⟨⟨#[97]⟩,2,0⟩
theorem eA_ok:eA.ok=true:=by decide
theorem lp_none (w:World):Lp w 0 ⟨#[]⟩ noE 0 none [] []:=⟨Strs.nil _ _ _,by decide,.inl ⟨rfl,rfl⟩,⟨rfl,List.Pairwise.nil,(fun _ h=>by cases h),(fun _ h=>by cases h)⟩,by simp⟩
def aX:Nd:=⟨0,0,noE,[(eA,0)]⟩
theorem aX_gd:Gd aX:=by
  refine ⟨by decide,by decide,⟨noE,?_⟩,fun h=>absurd h (by decide)⟩
  refine ⟨List.pairwise_cons.2 ⟨(fun _ h=>by cases h),List.Pairwise.nil⟩,.inl rfl,fun _ k hk=>?_,fun h=>absurd h (by decide),fun h=>absurd h (by decide),by decide +kernel⟩
  have e:k=(eA,0):=by simpa [aX] using hk
  subst e
  exact ⟨eA_ok,rfl,noE_lt eA_ok,byd_noE _⟩
theorem fits_1:¬ (255 < ([eA.enc]:List ByteArray).length∨512 < 20+(⟨#[]⟩:ByteArray).size+isz [eA.enc]):=by decide +kernel
theorem insert_A (W:World):Calls Tryz.prog 46 #[.agg #[.int .i64 0,.int .i64 3,.int .i64 0,.int .i64 0,.string ⟨#[]⟩,.slice none 0 0],.agg #[.string ⟨#[97]⟩,.int .i64 2,.int .i64 0]] W fun x w'=>∃ B ao cp,x=.returned (.tuple #[.agg #[.int .i64 0,.int .i64 3,.int .i64 0,.int .i64 0,.string ⟨#[]⟩,.slice ao 1 cp],.int .i64 0])∧Strs w' B ao [eA.enc]∧Fit ao 1 cp∧Only (fun _=>False) W w'∧W.heap.size≤B :=
  (insert_ok W 0 0 ⟨#[]⟩ noE eA 0 0 none [] [] (lp_none W) ⟨fun _=>rfl,by simp,by simp⟩).mono (fun x w' q=>by
    obtain ⟨B,ao,cp,h1,h2,h3,h4,h5⟩:=q.fits (lp_none W) eA_ok (byd_noE _) (by simp) fits_1
    exact ⟨B,ao,cp,h1,h2.strs,h3,h4,h5⟩)
def aT:Tu:=⟨1,0,false,⟨#[97]⟩,⟨#[120]⟩⟩
theorem aT_ok:aT.ok=true:=rfl
def aS:ByteArray:=str aT.enc
theorem aS_size:aS.size=9:=by unfold aS; rw [str_size,enc_lenT aT_ok]; rfl
theorem aT_dec:decT (bl aS)=some aT:=by unfold aS; rw [show bl (str aT.enc)=aT.enc from rfl]; exact dec_encT aT_ok
def aP:Pg:=⟨0,1,0,0,⟨#[]⟩,[⟨#[1]⟩,⟨#[2,0,0,0]⟩]⟩
theorem aP0:blankP 16 1=⟨0,1,0,0,⟨#[]⟩,[⟨#[1]⟩,⟨#[0,0,0,0]⟩]⟩:=rfl
theorem aok0:OkP 16 ⟨0,1,0,0,⟨#[]⟩,[⟨#[1]⟩,⟨#[0,0,0,0]⟩]⟩:=by
  have:=OkP.blank (id16 (x:=1) (by omega) (by omega))
  rw [aP0] at this
  exact this
theorem aP1:setP ⟨0,1,0,0,⟨#[]⟩,[⟨#[1]⟩,⟨#[0,0,0,0]⟩]⟩ 1 2=aP:=rfl
theorem aok1:OkP 16 aP:=by
  have:=aok0.set (id16 (x:=1) (by omega) (by omega)) (show 2 < 4 by omega)
  rw [aP1] at this
  exact this
def aV:Vw:=⟨16,5,[],5,[5],aP⟩
theorem av1:vsi aV 1=2:=by
  unfold vsi
  rw [if_neg (by simp [aV])]
  show ((gst 16 aP 1:Nat):Int)=2
  unfold gst
  rw [if_pos (cid_ok (id16 (by omega) (by omega)) aok1)]
  rfl
theorem axb:xbef 16 1 5=true:=by
  unfold xbef
  rw [ring_gap (id16 (by omega) (by omega)) (id16 (by omega) (by omega)),if_pos (by omega)]
  rfl
theorem as1:vsees aV 1=true:=by
  unfold vsees vcom vdone vown
  rw [av1]
  show ((aV.own != 0 && (1:Int) == aV.own) || (decide ((2:Int)=2) && (xbef 16 1 5 && !decide ((1:Int) ∈ ([]:List Int)))))=true
  rw [axb]
  decide
def aTp:Tp:=⟨1,0,false,⟨#[97]⟩,⟨#[120]⟩⟩
theorem a_vis:vvis aV aTp=true:=by
  unfold vvis vbeg vend aTp
  simp only [as1]
  rfl
theorem a_new:vnewer aV aTp=false:=by
  unfold vnewer vnews vcom aTp
  simp only [as1,av1]
  rfl
end Go.Proofs.YtajjakljheafjaaGreat
