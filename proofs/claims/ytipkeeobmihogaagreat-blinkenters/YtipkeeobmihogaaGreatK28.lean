/- Parts. -/
import Derived.Test.YtipkeeobmihogaaGreatK27
set_option maxRecDepth 100000
namespace Go.Proofs.YtipkeeobmihogaaGreat
open Go.RowKit
theorem only_row {w wr w1:World} {v:Value} {row:Option Nat} {l:List UInt8} (ho:Only (fun _=>False) w wr) (hr:Row wr w.heap.size v row l) {o:Obj} (h1:Only (fun k=>some k=row) (wr.alloc o) w1):Only (fun _=>False) w w1:=by
  refine (ho.trans (Only.alloc (fun _=>False) wr o) (fun _ _ h=>h)).trans h1 ?_
  intro i hi e
  have:=(hr.lt i e.symm).1
  omega
set_option maxHeartbeats 1600000 in
theorem refNum_any (w:World) (zs:List Int) (g off cap:Nat) (hc:∀ k,k < zs.length→w.cell? ⟨g,off+k,none⟩=some (.int .i64 (zs.getD k 0))) (hz:∀ k,k < zs.length→zs.getD k 0 < 9223372036854775808) (hgl:g < w.heap.size) (hl:10 * zs.length+20≤158329674399744) :
    Calls Tryz.prog 93 #[.slice (some ⟨g,off,none⟩) zs.length cap] w fun e w'=>e=.returned (.string ⟨(nums zs).toArray⟩)∧Only (fun _=>False) w w':=by
  obtain ⟨i0,hi,hz0,hz1,hz2⟩:=info_parts Tryz.infoByte
  have HC:=hide hc
  have HZ:=hide hz
  clear hc hz
  go_enter Tryz.func93,Tryz.ntmps93
  go_wp2
  go_loopw [3,4,5] (fun v i _ wr=>∃ (k:Nat) (row:Option Nat),k≤zs.length∧i=.int .i64 k∧Hid (Row wr w.heap.size v row (nums (zs.take k)))∧Hid (Only (fun _=>False) w wr))
    (fun _ i _ _=>zs.length - (intOf i).toNat)
  case atStart=>exact ⟨0,none,Nat.zero_le _,rfl,⟨World.ownsRow_nil _ _ _ _,rfl⟩,Only.refl _ _⟩
  case round=>
    obtain ⟨k,row,hk,rfl,HR,HO⟩:=hrel
    by_cases hlt:k < zs.length
    · have hck:wr.cell? ⟨g,off+k,none⟩=some (.int .i64 (zs.getD k 0)):=(HO.out.cell (p:=⟨g,off+k,none⟩) hgl (fun h=>h)).trans (HC.out k hlt)
      have hzk:=HZ.out k hlt
      have hnl:=nums_len (zs.take k)
      have hnl2:(zs.take k).length≤k:=List.length_take_le _ _
      have HN:=hide (nums_snoc zs k hlt)
      obtain ⟨z,hzz⟩:=exq (zs.getD k 0)
      rw [hzz] at hck hzk HN
      clear hzz
      generalize nums (zs.take k)=l at *
      have hll:l.length≤10 * k:=by omega
      by_cases hneg:z < 0
      all_goals
        go_wp2
        go_loopw [3,5] (fun v n wq=>∃ (q f:Nat) (row':Option Nat) (l':List UInt8),n=.int .i64 q∧Hid (Row wq w.heap.size v row' l')∧f≤9∧q < 9223372036854775808∧Hid (q < 128 ^ f)∧Hid (l'++sevF f q=l++sev z.toNat)∧Hid (Only (fun _=>False) w wq)∧l'.length+f≤l.length+9)
          (fun _ n _=>(intOf n).toNat)
        case atStart=>exact ⟨z.toNat,9,row,l,by go_num,HR,by omega,by omega,(by unfold Hid; omega),(by unfold Hid; rfl),HO,by omega⟩
        case round=>
          obtain ⟨q,f,row',l',rfl,HR1,hf,hq,Hq,HL,HO1,hlen⟩:=hrel
          by_cases h128:(128:Int)≤q
          · have HD:Hid (∀ o:World,o=wr.alloc (.cells #[.int .u8 ((q:Int) % 128+128)] 5)→o.cell? ⟨wr.heap.size,0,none⟩=some (.int .u8 (((UInt8.ofNat (q % 128+128)).toNat:Nat):Int))):=by
              intro o ho
              subst ho
              rw [byte_nat (by omega)]
              simp
            go_wp2_with (at_builtin; go_must (refine wpList_byte _ rfl (.tmp 19) (.tmp 24) 142 rfl w.heap.size i0 Tryz.underlying142 hi hz0 hz1 hz2 _ row' l' rfl (HR1.out.alloc _) ⟨wr.heap.size,0,none⟩ 1 (UInt8.ofNat (q % 128+128)) rfl (HD.out _ rfl) (by omega) (by have:=HO1.out.size; simp; omega) ?_); intro v1 w1 row1 hr1 ho1 hrow1; clear hrow1; have HR2:=hide (And.intro hr1 (only_row HO1.out HR1.out ho1)); clear hr1 ho1)
            obtain ⟨f',hf',HL',Hq'⟩:=sevF_step HL.out Hq.out (by omega)
            go_roundw
            case rel=>exact ⟨q / 128,f',row1,l'++[UInt8.ofNat (q % 128+128)],by go_num,HR2.out.1,by omega,by omega,Hq',HL',HR2.out.2,by simp; omega⟩
            case measure=>simp [intOf]; omega
          · have HD:Hid (∀ o:World,o=wr.alloc (.cells #[.int .u8 (q:Int)] 5)→o.cell? ⟨wr.heap.size,0,none⟩=some (.int .u8 (((UInt8.ofNat q).toNat:Nat):Int))):=by
              intro o ho
              subst ho
              rw [byte_nat (by omega)]
              simp
            have HL2:Hid (l++sev z.toNat=l'++[UInt8.ofNat q]):=by unfold Hid; rw [← HL.out,sevF_end (by omega)]
            go_wp2_with (at_builtin; go_must (refine wpList_byte _ rfl (.tmp 28) (.tmp 31) 142 rfl w.heap.size i0 Tryz.underlying142 hi hz0 hz1 hz2 _ row' l' rfl (HR1.out.alloc _) ⟨wr.heap.size,0,none⟩ 1 (UInt8.ofNat q) rfl (HD.out _ rfl) (by omega) (by have:=HO1.out.size; simp; omega) ?_); intro v1 w1 row1 hr1 ho1 hrow1; clear hrow1; have HR2:=hide (And.intro hr1 (only_row HO1.out HR1.out ho1)); clear hr1 ho1)
            go_roundw
            case rel=>exact ⟨k+1,row1,by omega,by go_num,by rw [HN.out,HL2.out]; exact HR2.out.1,HR2.out.2⟩
            case measure=>simp [intOf]; omega
    · have HT:Hid (zs.take k=zs):=List.take_of_length_le (by omega)
      have hR:=HR.out
      rw [HT.out] at hR
      have hcv:=bytes_back wr _ _ _ _ hR
      clear hR
      go_wp2
      go_ret
      exact ⟨rfl,HO.out⟩
theorem refNum_one (w:World) (z:Int) (hz:z < 9223372036854775808) :
    Calls Tryz.prog 93 #[.slice (some ⟨w.heap.size,0,none⟩) 1 1] (w.alloc (.cells #[.int .i64 z] 3)) fun e w'=>e=.returned (.string ⟨(sev z.toNat).toArray⟩)∧Only (fun _=>False) w w':=by
  have h:=refNum_any (w.alloc (.cells #[.int .i64 z] 3)) [z] w.heap.size 0 1
    (by intro k hk; have e:k=0:=by simpa using hk
        subst e; simp)
    (by intro k hk; have e:k=0:=by simpa using hk
        subst e; simpa using hz)
    (by simp) (by simp)
  refine Calls.mono h ?_
  rintro e w' ⟨he,h2⟩
  exact ⟨by rw [he]; simp [nums],(Only.alloc (fun _=>False) w _).trans h2 (fun _ _ h=>h)⟩
set_option maxHeartbeats 3200000 in
theorem fcompare_any (a b:En) (w:World):Calls Tryz.prog 56 #[a.agg,b.agg] w fun x w'=>x=.returned (.int .i64 (cmpE a b))∧Only (fun _=>False) w w':=by
  have he:=eqE_run a b
  have HO:=hide (o2 (onlyA w (.cells #[.string a.key,.int .i64 a.page,.int .i64 a.slot] 41)) (onlyA _ (.cells #[.string b.key,.int .i64 b.page,.int .i64 b.slot] 41)))
  by_cases h:a=b
  · have hz:cmpE a b=0:=cmpE_zero.2 h
    have hd:decide (a=b)=true:=decide_eq_true h
    rw [hd] at he
    rw [hz]
    clear h hd hz
    obtain ⟨k,p,s⟩:=a
    obtain ⟨k',p',s'⟩:=b
    unfold En.agg
    simp only [] at he HO ⊢
    go_enter Tryz.func56,Tryz.ntmps56
    go_wp2_with fail
    go_ret
    exact ⟨rfl,HO.out⟩
  · have hd:decide (a=b)=false:=decide_eq_false h
    rw [hd] at he
    have hz:cmpE a b=if a.lt b then -1 else 1:=by unfold cmpE; rw [if_neg h]
    obtain ⟨z,hz2⟩:=exq (cmpE a b)
    rw [hz2] at hz ⊢
    have HZ:=hide hz
    clear h hd hz hz2
    obtain ⟨k,p,s⟩:=a
    obtain ⟨k',p',s'⟩:=b
    unfold En.agg
    unfold En.lt at HZ
    simp only [] at he HO HZ ⊢
    by_cases h1:k=k'
    · have e1:=ba_eqN h1
      have e0:Op.bytesLess k.toList k'.toList=false:=by rw [bless_lt,h1]; simp [List.lt_irrefl]
      have HZ1:Hid (z=if (if p=p' then s < s' else p < p') then -1 else 1):=by unfold Hid; rw [HZ.out]; simp only [if_pos h1]
      clear h1 HZ
      by_cases h2:p=p'
      · have e2:(p == p')=true:=by simpa using h2
        have e3:¬ p < p':=by omega
        have HZ2:Hid (z=if s < s' then -1 else 1):=by unfold Hid; rw [HZ1.out]; simp only [if_pos h2]
        clear h2 HZ1
        by_cases h3:s < s'
        · have HZ3:Hid (z=-1):=by unfold Hid; rw [HZ2.out,if_pos h3]
          clear HZ2
          go_enter Tryz.func56,Tryz.ntmps56
          go_wp2_with fail
          go_ret
          exact ⟨by rw [HZ3.out]; rfl,HO.out⟩
        · have HZ3:Hid (z=1):=by unfold Hid; rw [HZ2.out,if_neg h3]
          clear HZ2
          go_enter Tryz.func56,Tryz.ntmps56
          go_wp2_with fail
          go_ret
          exact ⟨by rw [HZ3.out]; rfl,HO.out⟩
      · have e2:(p == p')=false:=by simpa using h2
        have HZ2:Hid (z=if p < p' then -1 else 1):=by unfold Hid; rw [HZ1.out]; simp only [if_neg h2]
        clear h2 HZ1
        by_cases h3:p < p'
        · have HZ3:Hid (z=-1):=by unfold Hid; rw [HZ2.out,if_pos h3]
          clear HZ2
          go_enter Tryz.func56,Tryz.ntmps56
          go_wp2_with fail
          go_ret
          exact ⟨by rw [HZ3.out]; rfl,HO.out⟩
        · have HZ3:Hid (z=1):=by unfold Hid; rw [HZ2.out,if_neg h3]
          clear HZ2
          go_enter Tryz.func56,Tryz.ntmps56
          go_wp2_with fail
          go_ret
          exact ⟨by rw [HZ3.out]; rfl,HO.out⟩
    · have e1:=ba_neN h1
      have HZ1:Hid (z=if bl k < bl k' then -1 else 1):=by unfold Hid; rw [HZ.out]; simp only [if_neg h1]
      clear h1 HZ
      by_cases h3:bl k < bl k'
      · have e0:Op.bytesLess k.toList k'.toList=true:=by rw [bless_lt]; exact decide_eq_true h3
        have HZ3:Hid (z=-1):=by unfold Hid; rw [HZ1.out,if_pos h3]
        clear HZ1 h3
        go_enter Tryz.func56,Tryz.ntmps56
        go_wp2_with fail
        go_ret
        exact ⟨by rw [HZ3.out]; rfl,HO.out⟩
      · have e0:Op.bytesLess k.toList k'.toList=false:=by rw [bless_lt]; exact decide_eq_false h3
        have HZ3:Hid (z=1):=by unfold Hid; rw [HZ1.out,if_neg h3]
        clear HZ1 h3
        go_enter Tryz.func56,Tryz.ntmps56
        go_wp2_with fail
        go_ret
        exact ⟨by rw [HZ3.out]; rfl,HO.out⟩
set_option maxHeartbeats 3200000 in
theorem layInto_right (w:World) (base b n c:Nat) (m1 m2:Int) (L R:Nd) (ao1 ao2:Option Addr) (cp1 cp2:Nat) (C3:List Value) (s:ByteArray) (e:En) (k:Int) (P:Nat→Prop) (hn:2≤n) (hr:w.ownsRow base 65 7 (.slice (some ⟨b,0,none⟩) n c) n (imc m1 (L.z 0 ao1 cp1)++imc m2 (R.z 0 ao2 cp2)++C3)) (hL:Gd L) (hR:Gd R) (hA1:At w P (L.z 0 ao1 cp1)) (hA2:At w P (R.z 0 ao2 cp2)) (hv:L.lv=R.lv) (hs:brd L.lv s=some (e,k)) (he:e.ok=true) (hy:byd L.hi e=true) (hb:¬ R.bad e) (hz:(R.ins e k).size≤512) :
    Calls Tryz.prog 19 #[.slice (some ⟨b,0,none⟩) n c,.string s] w fun x w'=>x=.returned (.int .i64 0)∧∃ ao' cp',w'.ownsRow base 65 7 (.slice (some ⟨b,0,none⟩) n c) n (imc m1 (L.z 0 ao1 cp1)++imc m2 ((R.ins e k).z 0 ao' cp')++C3)∧At w' (fun k=>w.heap.size≤k) ((R.ins e k).z 0 ao' cp')∧Only (fun k=>k=b) w w':=by
  have HIB:Hid (∀ W,Only (fun _=>False) w W→Calls Tryz.prog 51 #[.agg #[.int .i64 0,.int .i64 3,.int .i64 L.lv,.int .i64 L.rt,.string (hiB L.hi),.slice ao1 L.items.length cp1],.string s] W fun x w'=>x=.returned (.bool true)∧Only (fun _=>False) W w'):=fun W ho=>by
    obtain ⟨B,hS,_⟩:=hA1.strs
    have h:=isBeyondB_nd W 0 L s e k B cp1 ao1 (hL.nm (hS.more ho)) hs he
    rw [hy] at h
    exact h
  have HWI:Hid (∀ W,Only (fun _=>False) w W→Calls Tryz.prog 15 #[.agg #[.int .i64 0,.int .i64 3,.int .i64 R.lv,.int .i64 R.rt,.string (hiB R.hi),.slice ao2 R.items.length cp2],.string s] W fun x w'=>Res W w' x ((R.ins e k).pg 0) 0):=fun W ho=>by
    obtain ⟨B,hS,_⟩:=hA2.strs
    have h:=with_nd W 0 R s B cp2 ao2 (hR.nm (hS.more ho)) hA2.fit
    rw [hv] at hs
    rw [hs] at h
    unfold Nd.wiP Nd.wiK at h
    simp only [] at h
    rw [if_neg hb,if_neg (by omega),if_neg hb,if_neg (by omega)] at h
    exact h
  have HRG:=hide (own_rg hr)
  have HRW:=hide hr
  have HN:Hid (2≤n):=hn
  clear hL hR hA1 hA2 hs he hy hb hz hr
  obtain ⟨z1,hz1⟩:=exq (L.z 0 ao1 cp1)
  obtain ⟨z2,hz2⟩:=exq (R.z 0 ao2 cp2)
  have HIB2:Hid (∀ W,Only (fun _=>False) w W→Calls Tryz.prog 51 #[.agg (L.z 0 ao1 cp1).ar,.string s] W fun x w'=>x=.returned (.bool true)∧Only (fun _=>False) W w'):=HIB
  have HWI2:Hid (∀ W,Only (fun _=>False) w W→Calls Tryz.prog 15 #[.agg (R.z 0 ao2 cp2).ar,.string s] W fun x w'=>Res W w' x ((R.ins e k).pg 0) 0):=HWI
  clear HIB HWI
  rw [hz1] at HIB2 HRG HRW ⊢
  rw [hz2] at HRG HRW HWI2
  clear hz1 hz2
  unfold Pz.ar at HIB2 HWI2
  have hn0:¬ (n:Int)≤0:=by have:=HN.out; omega
  have hn1:(0:Int) < (n:Int):=by have:=HN.out; omega
  have hn2:¬ (n:Int)≤1:=by have:=HN.out; omega
  have hn3:(1:Int) < (n:Int):=by have:=HN.out; omega
  obtain ⟨Q,hQ⟩:=exq ((R.ins e k).pg 0)
  have HQ:=hide hQ
  rw [hQ] at HWI2
  clear hQ hn hv
  have p0:=HRG.out.cell 1 (.int .i64 z1.p.lsn) rfl
  have p1:=HRG.out.cell 2 (.int .i64 z1.p.kind) rfl
  have p2:=HRG.out.cell 3 (.int .i64 z1.p.level) rfl
  have p3:=HRG.out.cell 4 (.int .i64 z1.p.right) rfl
  have p4:=HRG.out.cell 5 (.string z1.p.high) rfl
  have p5:=HRG.out.cell 6 (.slice z1.ao z1.p.items.length z1.cp) rfl
  rw [Nat.zero_add] at p0 p1 p2 p3 p4 p5
  go_enter Tryz.func19,Tryz.ntmps19
  go_wp2_with fail
  refine (HIB2.out _ (Only.refl _ _)).mono ?_
  rintro x w1 ⟨rfl,ho⟩
  have HO1:=hide ho
  have HRG1:=hide (HRG.out.more ho)
  have HRW1:=hide (own_keptJ HRW.out ho (fun _ _ h=>h))
  clear ho p0 p1 p2 p3 p4 p5 HRG HRW HIB2
  have p0:=HRG1.out.cell 8 (.int .i64 z2.p.lsn) rfl
  have p1:=HRG1.out.cell 9 (.int .i64 z2.p.kind) rfl
  have p2:=HRG1.out.cell 10 (.int .i64 z2.p.level) rfl
  have p3:=HRG1.out.cell 11 (.int .i64 z2.p.right) rfl
  have p4:=HRG1.out.cell 12 (.string z2.p.high) rfl
  have p5:=HRG1.out.cell 13 (.slice z2.ao z2.p.items.length z2.cp) rfl
  rw [Nat.zero_add] at p0 p1 p2 p3 p4 p5
  go_wp2_with fail
  refine (HWI2.out _ HO1.out).mono ?_
  rintro x w2 ⟨B5,ao5,cp5,rfl,hS5,hF5,ho5,hB5⟩
  have HO2:=hide (o2 HO1.out ho5)
  have HRG2:=hide (HRG1.out.more ho5)
  have HRW2:=hide (own_keptJ HRW1.out ho5 (fun _ _ h=>h))
  have HS5:Hid (At w2 (fun k=>w.heap.size≤k∧k≠b) ⟨Q,ao5,cp5⟩):=⟨⟨B5,hS5,fun h0=>⟨Nat.le_trans HO1.out.size (hB5 h0),by have h1:=hB5 h0; have h2:=HRG1.out.lt; omega⟩⟩,hF5⟩
  clear hS5 hF5 ho5 hB5 p0 p1 p2 p3 p4 p5 HRG1 HRW1 HO1 HWI2
  go_upto_region 5 with fail
  have HPG:=hide (Pag.new w2 (.int .i64 Q.lsn) (.int .i64 Q.kind) (.int .i64 Q.level) (.int .i64 Q.right) (.string Q.high) (.slice ao5 Q.items.length cp5))
  have HAL:=hide (onlyA w2 (.cells #[.int .i64 Q.lsn,.int .i64 Q.kind,.int .i64 Q.level,.int .i64 Q.right,.string Q.high,.slice ao5 Q.items.length cp5] 24))
  obtain ⟨w3,hw3⟩:=exq (w2.alloc (.cells #[.int .i64 Q.lsn,.int .i64 Q.kind,.int .i64 Q.level,.int .i64 Q.right,.string Q.high,.slice ao5 Q.items.length cp5] 24))
  rw [hw3] at HPG HAL ⊢
  clear hw3
  obtain ⟨g,hg⟩:=exq (w2.heap.size)
  rw [hg] at HPG ⊢
  clear hg
  have HRG3:=hide (HRG2.out.more HAL.out)
  have HRW3:=hide (own_keptJ HRW2.out HAL.out (fun _ _ h=>h))
  have HS3:=hide (HS5.out.more HAL.out)
  have HO3:=hide (o2 HO2.out HAL.out)
  obtain ⟨q0,q1,q2,q3,q4,q5,_⟩:=HPG.out
  have p0:=HRG3.out.cell 8 (.int .i64 z2.p.lsn) rfl
  have f0:=HRG3.out.fr 8 (by simp [imc,Pz.c])
  have p1:=HRG3.out.cell 9 (.int .i64 z2.p.kind) rfl
  have f1:=HRG3.out.fr 9 (by simp [imc,Pz.c])
  have p2:=HRG3.out.cell 10 (.int .i64 z2.p.level) rfl
  have f2:=HRG3.out.fr 10 (by simp [imc,Pz.c])
  have p3:=HRG3.out.cell 11 (.int .i64 z2.p.right) rfl
  have f3:=HRG3.out.fr 11 (by simp [imc,Pz.c])
  have p4:=HRG3.out.cell 12 (.string z2.p.high) rfl
  have f4:=HRG3.out.fr 12 (by simp [imc,Pz.c])
  have p5:=HRG3.out.cell 13 (.slice z2.ao z2.p.items.length z2.cp) rfl
  have f5:=HRG3.out.fr 13 (by simp [imc,Pz.c])
  rw [Nat.zero_add] at p0 p1 p2 p3 p4 p5 f0 f1 f2 f3 f4 f5
  go_wp2_with fail
  go_ret
  obtain rfl:=HQ.out
  have hp:=own_put (c1:=imc m1 z1++[.int .i64 m2]) (c2:=z2.c) (c3:=C3) (by have h:=HRW3.out; simpa [imc] using h) (((R.ins e k).z 0 ao5 cp5).c) rfl
  have hS:=(HS3.out.kept (only_setCells b (((R.ins e k).z 0 ao5 cp5).c) 8 w3) (fun k hk=>hk.2)).mono (Q:=fun k=>w.heap.size≤k) (fun k hk=>hk.1)
  have hp2:(w3.setCells b 8 (((R.ins e k).z 0 ao5 cp5).c)).ownsRow base 65 7 (.slice (some ⟨b,0,none⟩) n c) n (imc m1 z1++imc m2 ((R.ins e k).z 0 ao5 cp5)++C3):=by have e8:(imc m1 z1++[Value.int .i64 m2]).length=8:=rfl; rw [e8] at hp; simpa [imc] using hp
  exact ⟨rfl,ao5,cp5,hp2,hS,(HO3.out.mono (fun _ _ h=>h.elim)).trans (only_setCells b (((R.ins e k).z 0 ao5 cp5).c) 8 w3) (fun _ _ h=>h)⟩
set_option maxHeartbeats 3200000 in
theorem rbstands_any (w:World) (B n C:Nat) (A:Option Addr) (es:List En) (e:En) (hE:Els w B A es) (hn:es.length=n) (hl:n≤4194304) :
    Calls Tryz.prog 43 #[.slice A n C,e.agg] w fun x w'=>x=.returned (.bool (decide (e ∈ es)))∧Only (fun _=>False) w w':=by
  have HV:=hide (Ev.new w e)
  have HO:=hide (onlyA w (.cells #[.string e.key,.int .i64 e.page,.int .i64 e.slot] 41))
  have HE:=hide hE
  have HN:=hide hn
  obtain ⟨D,hD⟩:=exq (decide (e ∈ es))
  rw [hD]
  have HD:=hide hD
  clear hE hn hD
  unfold En.agg
  go_enter Tryz.func43,Tryz.ntmps43
  go_upto_region 2 with fail
  obtain ⟨W0,hW0⟩:=exq (w.alloc (.cells #[.string e.key,.int .i64 e.page,.int .i64 e.slot] 41))
  rw [hW0] at HV HO ⊢
  clear hW0
  go_loopw [5] (fun i wr=>∃ (j:Nat),j≤n∧i=.int .i64 (j:Int)∧Hid (e ∉ es.take j)∧Hid (Only (fun _=>False) W0 wr)) (fun i _=>n - (intOf i).toNat)
  case atStart=>exact ⟨0,Nat.zero_le _,rfl,hide (by simp),hide (Only.refl _ _)⟩
  case round=>
    obtain ⟨j,hj,rfl,HNI,HW⟩:=hrel
    by_cases hlt:j < n
    · have hlk:(j:Int) < (n:Int):=by omega
      have hlk2:¬ (n:Int)≤(j:Int):=by omega
      have hje:j < es.length:=by have:=HN.out; omega
      obtain ⟨o,rfl,hb1⟩:=(HE.out.more (o2 HO.out HW.out)).of j hje
      have HV2:=hide (HV.out.more HW.out)
      have HTK:Hid (es.take (j+1)=es.take j++[es[j]]):=List.take_succ_eq_append_getElem hje
      obtain ⟨g,hg⟩:=exq (es[j])
      have HGM:Hid (g ∈ es):=by rw [← hg]; exact List.getElem_mem _
      rw [hg] at hb1 HTK
      have HB1:=hide hb1
      clear hb1 hg
      have hqe:=eqE_run g e
      go_upto_region 4 with fail
      by_cases hq:g=e
      · rw [decide_eq_true hq] at hqe
        have HT:Hid (true=D):=by
          rw [← HD.out,← hq,decide_eq_true HGM.out]
          rfl
        clear hq HD
        -- {r4a
        refine wp_region_noPanic ?_
        refine wp_region_held_drew (S:=fun W=>Only (fun _=>False) wr W) (by kernel_rfl) (Only.drew _ _) (fun hHeld=>?_)
        refine tkP 0 (.slice (some ⟨B,o,none⟩) n C) rfl ?_
        refine tkP 1 (.int .i64 (j:Int)) rfl ?_
        refine tkQ 4 (.agg #[.string e.key,.int .i64 e.page,.int .i64 e.slot]) rfl (yieldsIf_load_ev (by rfl) _ rfl rfl (fun W hW=>HV2.out.more hW)) ?_
        refine tkP 2 (.pointer (some ⟨B,o+j * 3,none⟩)) rfl ?_
        refine tkQ 3 (.agg #[.string g.key,.int .i64 g.page,.int .i64 g.slot]) rfl (yieldsIf_load_eb (by rfl) _ rfl rfl (fun W hW=>HB1.out.more hW)) ?_
        refine tkP 5 (.bool true) rfl ?_
        refine dnN ?_
        -- r4a}
        clear hqe
        go_wp2_with fail
        go_ret
        obtain rfl:=HT.out
        exact ⟨rfl,o2 (o2 HO.out HW.out) (Only.drew _ _)⟩
      · rw [decide_eq_false hq] at hqe
        have HN2:Hid (e ∉ es.take (j+1)):=by
          rw [HTK.out]
          intro k
          rcases List.mem_append.1 k with q | q
          · exact HNI.out q
          · exact hq (List.mem_singleton.1 q).symm
        clear hq HTK
        -- {r4b
        refine wp_region_noPanic ?_
        refine wp_region_held_drew (S:=fun W=>Only (fun _=>False) wr W) (by kernel_rfl) (Only.drew _ _) (fun hHeld=>?_)
        refine tkP 0 (.slice (some ⟨B,o,none⟩) n C) rfl ?_
        refine tkP 1 (.int .i64 (j:Int)) rfl ?_
        refine tkQ 4 (.agg #[.string e.key,.int .i64 e.page,.int .i64 e.slot]) rfl (yieldsIf_load_ev (by rfl) _ rfl rfl (fun W hW=>HV2.out.more hW)) ?_
        refine tkP 2 (.pointer (some ⟨B,o+j * 3,none⟩)) rfl ?_
        refine tkQ 3 (.agg #[.string g.key,.int .i64 g.page,.int .i64 g.slot]) rfl (yieldsIf_load_eb (by rfl) _ rfl rfl (fun W hW=>HB1.out.more hW)) ?_
        refine tkP 5 (.bool false) rfl ?_
        refine dnN ?_
        -- r4b}
        clear hqe
        go_wp2_with fail
        go_roundw
        case rel=>exact ⟨j+1,by omega,by go_num,HN2,hide (o2 HW.out (Only.drew _ _))⟩
        case measure=>simp [intOf]; omega
    · have hlk:¬ (j:Int) < (n:Int):=by omega
      have HT:Hid (false=D):=by
        have q:=HNI.out
        rw [List.take_of_length_le (by have:=HN.out; omega)] at q
        rw [← HD.out,decide_eq_false q]
        rfl
      clear HD
      go_wp2_with fail
      go_ret
      obtain rfl:=HT.out
      exact ⟨rfl,o2 HO.out HW.out⟩
end Go.Proofs.YtipkeeobmihogaaGreat
