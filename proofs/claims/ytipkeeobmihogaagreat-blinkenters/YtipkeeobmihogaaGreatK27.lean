/- Parts. -/
import Derived.Test.YtipkeeobmihogaaGreatK26
import Derived.Test.YtipkeeobmihogaaGreatK22
set_option maxRecDepth 100000
namespace Go.Proofs.YtipkeeobmihogaaGreat
open Go.RowKit
structure Gd (X:Nd):Prop where
  lvl:X.lv≤255
  rt:X.rt≤65535
  ok:∃ lo,X.Ok lo
  kok:X.Kok
theorem Gd.nm {X:Nd} (h:Gd X) {w:World} {B:Nat} {ao:Option Addr} (hs:Strs w B ao X.items):Nm w X B ao:=⟨hs,h.lvl,h.rt,h.ok,h.kok⟩
set_option maxHeartbeats 3200000 in
theorem layInto_left (w:World) (base b n c:Nat) (m1 m2:Int) (L R:Nd) (ao1 ao2:Option Addr) (cp1 cp2:Nat) (C3:List Value) (s:ByteArray) (e:En) (k:Int) (P:Nat→Prop) (hn:2≤n) (hr:w.ownsRow base 65 7 (.slice (some ⟨b,0,none⟩) n c) n (imc m1 (L.z 0 ao1 cp1)++imc m2 (R.z 0 ao2 cp2)++C3)) (hL:Gd L)  (hA1:At w P (L.z 0 ao1 cp1))   (hs:brd L.lv s=some (e,k)) (he:e.ok=true) (hy:byd L.hi e=false) (hb:¬ L.bad e) (hz:(L.ins e k).size≤512) :
    Calls Tryz.prog 19 #[.slice (some ⟨b,0,none⟩) n c,.string s] w fun x w'=>x=.returned (.int .i64 0)∧∃ ao' cp',w'.ownsRow base 65 7 (.slice (some ⟨b,0,none⟩) n c) n (imc m1 ((L.ins e k).z 0 ao' cp')++imc m2 (R.z 0 ao2 cp2)++C3)∧At w' (fun k=>w.heap.size≤k) ((L.ins e k).z 0 ao' cp')∧Only (fun k=>k=b) w w':=by
  have HIB:Hid (∀ W,Only (fun _=>False) w W→Calls Tryz.prog 51 #[.agg #[.int .i64 0,.int .i64 3,.int .i64 L.lv,.int .i64 L.rt,.string (hiB L.hi),.slice ao1 L.items.length cp1],.string s] W fun x w'=>x=.returned (.bool false)∧Only (fun _=>False) W w'):=fun W ho=>by
    obtain ⟨B,hS,_⟩:=hA1.strs
    have h:=isBeyondB_nd W 0 L s e k B cp1 ao1 (hL.nm (hS.more ho)) hs he
    rw [hy] at h
    exact h
  have HWI:Hid (∀ W,Only (fun _=>False) w W→Calls Tryz.prog 15 #[.agg #[.int .i64 0,.int .i64 3,.int .i64 L.lv,.int .i64 L.rt,.string (hiB L.hi),.slice ao1 L.items.length cp1],.string s] W fun x w'=>Res W w' x ((L.ins e k).pg 0) 0):=fun W ho=>by
    obtain ⟨B,hS,_⟩:=hA1.strs
    have h:=with_nd W 0 L s B cp1 ao1 (hL.nm (hS.more ho)) hA1.fit
    rw [hs] at h
    unfold Nd.wiP Nd.wiK at h
    simp only [] at h
    rw [if_neg hb,if_neg (by omega),if_neg hb,if_neg (by omega)] at h
    exact h
  have HRG:=hide (own_rg hr)
  have HRW:=hide hr
  have HN:Hid (2≤n):=hn
  clear hL hA1 hs he hy hb hz hr
  obtain ⟨z1,hz1⟩:=exq (L.z 0 ao1 cp1)
  obtain ⟨z2,hz2⟩:=exq (R.z 0 ao2 cp2)
  have HIB2:Hid (∀ W,Only (fun _=>False) w W→Calls Tryz.prog 51 #[.agg (L.z 0 ao1 cp1).ar,.string s] W fun x w'=>x=.returned (.bool false)∧Only (fun _=>False) W w'):=HIB
  have HWI2:Hid (∀ W,Only (fun _=>False) w W→Calls Tryz.prog 15 #[.agg (L.z 0 ao1 cp1).ar,.string s] W fun x w'=>Res W w' x ((L.ins e k).pg 0) 0):=HWI
  clear HIB HWI
  rw [hz1] at HIB2 HRG HRW HWI2
  rw [hz2] at HRG HRW ⊢
  clear hz1 hz2
  unfold Pz.ar at HIB2 HWI2
  have hn0:¬ (n:Int)≤0:=by have:=HN.out; omega
  have hn1:(0:Int) < (n:Int):=by have:=HN.out; omega
  have hn2:¬ (n:Int)≤1:=by have:=HN.out; omega
  have hn3:(1:Int) < (n:Int):=by have:=HN.out; omega
  obtain ⟨Q,hQ⟩:=exq ((L.ins e k).pg 0)
  have HQ:=hide hQ
  rw [hQ] at HWI2
  clear hQ hn
  have p0:=HRG.out.cell 1 (.int .i64 z1.p.lsn) rfl
  have p1:=HRG.out.cell 2 (.int .i64 z1.p.kind) rfl
  have p2:=HRG.out.cell 3 (.int .i64 z1.p.level) rfl
  have p3:=HRG.out.cell 4 (.int .i64 z1.p.right) rfl
  have p4:=HRG.out.cell 5 (.string z1.p.high) rfl
  have p5:=HRG.out.cell 6 (.slice z1.ao z1.p.items.length z1.cp) rfl
  rw [Nat.zero_add] at p0 p1 p2 p3 p4 p5
  go_enter Tryz.func19,Tryz.ntmps19
  go_wp2_with fail
  refine (HIB2.out _ (Only.refl _ _)).mono ?_
  rintro x w1 ⟨rfl,ho⟩
  have HO1:=hide ho
  have HRG1:=hide (HRG.out.more ho)
  have HRW1:=hide (own_keptJ HRW.out ho (fun _ _ h=>h))
  clear ho p0 p1 p2 p3 p4 p5 HRG HRW HIB2
  have p0:=HRG1.out.cell 1 (.int .i64 z1.p.lsn) rfl
  have p1:=HRG1.out.cell 2 (.int .i64 z1.p.kind) rfl
  have p2:=HRG1.out.cell 3 (.int .i64 z1.p.level) rfl
  have p3:=HRG1.out.cell 4 (.int .i64 z1.p.right) rfl
  have p4:=HRG1.out.cell 5 (.string z1.p.high) rfl
  have p5:=HRG1.out.cell 6 (.slice z1.ao z1.p.items.length z1.cp) rfl
  rw [Nat.zero_add] at p0 p1 p2 p3 p4 p5
  go_wp2_with fail
  refine (HWI2.out _ HO1.out).mono ?_
  rintro x w2 ⟨B5,ao5,cp5,rfl,hS5,hF5,ho5,hB5⟩
  have HO2:=hide (o2 HO1.out ho5)
  have HRG2:=hide (HRG1.out.more ho5)
  have HRW2:=hide (own_keptJ HRW1.out ho5 (fun _ _ h=>h))
  have HS5:Hid (At w2 (fun k=>w.heap.size≤k∧k≠b) ⟨Q,ao5,cp5⟩):=⟨⟨B5,hS5,fun h0=>⟨Nat.le_trans HO1.out.size (hB5 h0),by have h1:=hB5 h0; have h2:=HRG1.out.lt; omega⟩⟩,hF5⟩
  clear hS5 hF5 ho5 hB5 p0 p1 p2 p3 p4 p5 HRG1 HRW1 HO1 HWI2
  go_upto_region 5 with fail
  have HPG:=hide (Pag.new w2 (.int .i64 Q.lsn) (.int .i64 Q.kind) (.int .i64 Q.level) (.int .i64 Q.right) (.string Q.high) (.slice ao5 Q.items.length cp5))
  have HAL:=hide (onlyA w2 (.cells #[.int .i64 Q.lsn,.int .i64 Q.kind,.int .i64 Q.level,.int .i64 Q.right,.string Q.high,.slice ao5 Q.items.length cp5] 24))
  obtain ⟨w3,hw3⟩:=exq (w2.alloc (.cells #[.int .i64 Q.lsn,.int .i64 Q.kind,.int .i64 Q.level,.int .i64 Q.right,.string Q.high,.slice ao5 Q.items.length cp5] 24))
  rw [hw3] at HPG HAL ⊢
  clear hw3
  obtain ⟨g,hg⟩:=exq (w2.heap.size)
  rw [hg] at HPG ⊢
  clear hg
  have HRG3:=hide (HRG2.out.more HAL.out)
  have HRW3:=hide (own_keptJ HRW2.out HAL.out (fun _ _ h=>h))
  have HS3:=hide (HS5.out.more HAL.out)
  have HO3:=hide (o2 HO2.out HAL.out)
  obtain ⟨q0,q1,q2,q3,q4,q5,_⟩:=HPG.out
  have p0:=HRG3.out.cell 1 (.int .i64 z1.p.lsn) rfl
  have f0:=HRG3.out.fr 1 (by simp [imc,Pz.c])
  have p1:=HRG3.out.cell 2 (.int .i64 z1.p.kind) rfl
  have f1:=HRG3.out.fr 2 (by simp [imc,Pz.c])
  have p2:=HRG3.out.cell 3 (.int .i64 z1.p.level) rfl
  have f2:=HRG3.out.fr 3 (by simp [imc,Pz.c])
  have p3:=HRG3.out.cell 4 (.int .i64 z1.p.right) rfl
  have f3:=HRG3.out.fr 4 (by simp [imc,Pz.c])
  have p4:=HRG3.out.cell 5 (.string z1.p.high) rfl
  have f4:=HRG3.out.fr 5 (by simp [imc,Pz.c])
  have p5:=HRG3.out.cell 6 (.slice z1.ao z1.p.items.length z1.cp) rfl
  have f5:=HRG3.out.fr 6 (by simp [imc,Pz.c])
  rw [Nat.zero_add] at p0 p1 p2 p3 p4 p5 f0 f1 f2 f3 f4 f5
  go_wp2_with fail
  go_ret
  obtain rfl:=HQ.out
  have hp:=own_put (c1:=[.int .i64 m1]) (c2:=z1.c) (c3:=imc m2 z2++C3) (by have h:=HRW3.out; simpa [imc] using h) (((L.ins e k).z 0 ao5 cp5).c) rfl
  have hS:=(HS3.out.kept (only_setCells b (((L.ins e k).z 0 ao5 cp5).c) 1 w3) (fun k hk=>hk.2)).mono (Q:=fun k=>w.heap.size≤k) (fun k hk=>hk.1)
  have hp2:(w3.setCells b 1 (((L.ins e k).z 0 ao5 cp5).c)).ownsRow base 65 7 (.slice (some ⟨b,0,none⟩) n c) n (imc m1 ((L.ins e k).z 0 ao5 cp5)++imc m2 z2++C3):=by simpa [imc] using hp
  exact ⟨rfl,ao5,cp5,hp2,hS,(HO3.out.mono (fun _ _ h=>h.elim)).trans (only_setCells b (((L.ins e k).z 0 ao5 cp5).c) 1 w3) (fun _ _ h=>h)⟩
end Go.Proofs.YtipkeeobmihogaaGreat
