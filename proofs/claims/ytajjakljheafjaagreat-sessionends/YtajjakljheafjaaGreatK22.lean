/- Parts. -/
import Derived.Test.YtajjakljheafjaaGreatK20
import Derived.Lib.IndexBytes
set_option maxRecDepth 100000
namespace Go.Proofs.YtajjakljheafjaaGreat
open Go.RowKit
theorem follows_nil (w:World) (a1 a2:Option Addr) (c1 n2 c2:Nat) (h e:En) :
    Calls Tryz.prog 140 #[cvv (.slice a1 0 c1) (.slice a2 n2 c2) h,e.agg] w fun x w'=>x=.returned (.bool (decide (e=noE)))∧Only (fun _=>False) w w':=by
  have HL:Hid (∀ W,Calls Tryz.prog 127 #[.agg #[.string e.key,.int .i64 e.page,.int .i64 e.slot]] W fun x w'=>x=.returned (.bool (decide (e=noE)))∧Only (fun _=>False) W w'):=fun W=>isLeast_any e W
  have HX:=hide (ce_new w (.slice a1 0 c1) (.slice a2 n2 c2) h e)
  obtain ⟨bb,hbb⟩:=exq (decide (e=noE))
  rw [hbb] at HL ⊢
  clear hbb
  unfold cvv En.agg
  go_enter Tryz.func140,Tryz.ntmps140
  go_upto_region 1 with fail
  obtain ⟨W0,hW0⟩:=exq ((w.alloc (.cells #[.slice a1 0 c1,.slice a2 n2 c2,.string h.key,.int .i64 h.page,.int .i64 h.slot] 164)).alloc (.cells #[.string e.key,.int .i64 e.page,.int .i64 e.slot] 89))
  rw [hW0] at HX ⊢
  clear hW0
  have q0:=HX.out.1.c0
  obtain ⟨d0,d1,d2,_⟩:=HX.out.2.1
  go_wp2_with fail
  refine (HL.out _).mono ?_
  rintro x w1 ⟨rfl,ho⟩
  have HO1:=hide (o2 HX.out.2.2 ho)
  clear ho
  go_wp2_with fail
  go_ret
  exact ⟨rfl,HO1.out⟩
set_option maxHeartbeats 3200000 in
theorem follows_one (w:World) (B o n c1 n2 c2:Nat) (a2:Option Addr) (h e la:En) (hE:Eb w B (o+n * 3) la) (hn:n≤8796093021952) :
    Calls Tryz.prog 140 #[cvv (.slice (some ⟨B,o,none⟩) (n+1) c1) (.slice a2 n2 c2) h,e.agg] w fun x w'=>x=.returned (.bool (decide (la.lt e) && blw h e))∧Only (fun _=>False) w w':=by
  have HM:Hid (∀ W,Calls Tryz.prog 125 #[.agg #[.string e.key,.int .i64 e.page,.int .i64 e.slot],.agg #[.string la.key,.int .i64 la.page,.int .i64 la.slot]] W fun x w'=>x=.returned (.int .i64 (cmpE e la))∧Only (fun _=>False) W w'):=fun W=>compare_any e la W
  have HB:Hid (∀ W,Calls Tryz.prog 148 #[.agg #[.slice (some ⟨B,o,none⟩) (n+1) c1,.slice a2 n2 c2,.string h.key,.int .i64 h.page,.int .i64 h.slot],.agg #[.string e.key,.int .i64 e.page,.int .i64 e.slot]] W fun x w'=>x=.returned (.bool (blw h e))∧Only (fun _=>False) W w'):=fun W=>isBelow_any W (some ⟨B,o,none⟩) a2 (n+1) n2 c1 c2 h e
  have hzp:0 < cmpE e la ↔ la.lt e:=cmpE_pos
  obtain ⟨z,hz⟩:=exq (cmpE e la)
  obtain ⟨bw,hbw⟩:=exq (blw h e)
  rw [hz] at HM hzp
  rw [hbw] at HB ⊢
  obtain ⟨rb,hrb⟩:=exq ((decide (la.lt e) && bw))
  rw [hrb]
  have HX:=hide (ce_new w (.slice (some ⟨B,o,none⟩) (n+1) c1) (.slice a2 n2 c2) h e)
  have HEB:=hide (hE.more HX.out.2.2)
  clear hz hE hbw
  unfold cvv En.agg
  go_enter Tryz.func140,Tryz.ntmps140
  go_upto_region 1 with fail
  obtain ⟨W0,hW0⟩:=exq ((w.alloc (.cells #[.slice (some ⟨B,o,none⟩) (n+1) c1,.slice a2 n2 c2,.string h.key,.int .i64 h.page,.int .i64 h.slot] 164)).alloc (.cells #[.string e.key,.int .i64 e.page,.int .i64 e.slot] 89))
  rw [hW0] at HX HEB ⊢
  clear hW0
  have q0:=HX.out.1.c0
  have hn0:((n:Int)+1 == 0)=false:=by simp; omega
  go_upto_region 3 with fail
  clear q0 hn0
  have hwn:IntKind.i64.wrap (n:Int)=(n:Int):=by rw [IntKind.wrap_i64]; omega
  have hle:¬ (n:Int)+1≤(n:Int):=by omega
  by_cases hlt:la.lt e
  · have hz0:0 < z:=hzp.2 hlt
    have HR:Hid (bw=rb):=by rw [decide_eq_true hlt,Bool.true_and] at hrb; exact hrb
    clear hzp hlt hrb
    -- {r3a
    refine wp_region_noPanic ?_
    refine wp_region_held_drew (S:=fun W=>Only (fun _=>False) W0 W) (by kernel_rfl) (Only.drew _ _) (fun hHeld=>?_)
    refine tkQ 0 (.agg #[.string e.key,.int .i64 e.page,.int .i64 e.slot]) rfl (yieldsIf_load_ev (by rfl) _ rfl rfl (fun W hW=>HX.out.2.1.more hW)) ?_
    refine tkP 1 (.pointer (some ⟨w.heap.size,0,none⟩)) rfl ?_
    refine tkP 3 (.pointer (some ⟨w.heap.size,0,none⟩)) rfl ?_
    refine tkQ 2 (.slice (some ⟨B,o,none⟩) (n+1) c1) rfl (yieldsIf_load_cell (by rfl) 92 _ rfl _ rfl (fun W hW=>(HX.out.1.more hW).c0) (fun W hc=>ld_entries hc)) ?_
    refine tkQ 4 (.slice (some ⟨B,o,none⟩) (n+1) c1) rfl (yieldsIf_load_cell (by rfl) 92 _ rfl _ rfl (fun W hW=>(HX.out.1.more hW).c0) (fun W hc=>ld_entries hc)) ?_
    refine tkP 5 (.int .i64 ((n:Int)+1)) rfl ?_
    refine tkP 6 (.int .i64 (n:Int)) rfl ?_
    refine tkP 7 (.pointer (some ⟨B,o+n * 3,none⟩)) rfl ?_
    refine tkQ 8 (.agg #[.string la.key,.int .i64 la.page,.int .i64 la.slot]) rfl (yieldsIf_load_eb (by rfl) _ rfl rfl (fun W hW=>HEB.out.more hW)) ?_
    refine rd1 9 rfl (fun K hK=>?_)
    go_simp
    refine (HM.out _).mono ?_
    rintro x x1 ⟨rfl,hx1⟩
    have HX1:=hide (o2 hHeld hx1)
    clear hx1
    refine hK.out _ _ (HX1.out) (fun hHeld=>?_)
    clear hK K
    try simp only [Act.put,lsA,lsB,lsC]
    refine tkP 10 (.bool true) rfl ?_
    refine tkP 11 (.bool true) rfl ?_
    refine tkQ 12 (.agg #[.slice (some ⟨B,o,none⟩) (n+1) c1,.slice a2 n2 c2,.string h.key,.int .i64 h.page,.int .i64 h.slot]) rfl (yieldsIf_load_cv (by rfl) _ rfl rfl (fun W hW=>HX.out.1.more hW)) ?_
    refine tkQ 13 (.agg #[.string e.key,.int .i64 e.page,.int .i64 e.slot]) rfl (yieldsIf_load_ev (by rfl) _ rfl rfl (fun W hW=>HX.out.2.1.more hW)) ?_
    refine rd1 14 rfl (fun K hK=>?_)
    go_simp
    refine (HB.out _).mono ?_
    rintro x x2 ⟨rfl,hx2⟩
    have HX2:=hide (o2 HX1.out hx2)
    clear hx2
    refine hK.out _ _ (HX2.out) (fun hHeld=>?_)
    clear hK K
    try simp only [Act.put,lsA,lsB,lsC]
    refine tkP 15 (.bool bw) rfl ?_
    refine tkP 16 (.bool bw) rfl ?_
    refine dnN ?_
    go_wp2_with fail
    go_ret
    obtain rfl:=HR.out
    exact ⟨rfl,o2 HX.out.2.2 HX2.out⟩
    -- r3a}
  · have hz0:¬ 0 < z:=fun k=>hlt (hzp.1 k)
    have HR:Hid (false=rb):=by rw [decide_eq_false hlt,Bool.false_and] at hrb; exact hrb
    clear hzp hlt hrb
    -- {r3b
    refine wp_region_noPanic ?_
    refine wp_region_held_drew (S:=fun W=>Only (fun _=>False) W0 W) (by kernel_rfl) (Only.drew _ _) (fun hHeld=>?_)
    refine tkQ 0 (.agg #[.string e.key,.int .i64 e.page,.int .i64 e.slot]) rfl (yieldsIf_load_ev (by rfl) _ rfl rfl (fun W hW=>HX.out.2.1.more hW)) ?_
    refine tkP 1 (.pointer (some ⟨w.heap.size,0,none⟩)) rfl ?_
    refine tkP 3 (.pointer (some ⟨w.heap.size,0,none⟩)) rfl ?_
    refine tkQ 2 (.slice (some ⟨B,o,none⟩) (n+1) c1) rfl (yieldsIf_load_cell (by rfl) 92 _ rfl _ rfl (fun W hW=>(HX.out.1.more hW).c0) (fun W hc=>ld_entries hc)) ?_
    refine tkQ 4 (.slice (some ⟨B,o,none⟩) (n+1) c1) rfl (yieldsIf_load_cell (by rfl) 92 _ rfl _ rfl (fun W hW=>(HX.out.1.more hW).c0) (fun W hc=>ld_entries hc)) ?_
    refine tkP 5 (.int .i64 ((n:Int)+1)) rfl ?_
    refine tkP 6 (.int .i64 (n:Int)) rfl ?_
    refine tkP 7 (.pointer (some ⟨B,o+n * 3,none⟩)) rfl ?_
    refine tkQ 8 (.agg #[.string la.key,.int .i64 la.page,.int .i64 la.slot]) rfl (yieldsIf_load_eb (by rfl) _ rfl rfl (fun W hW=>HEB.out.more hW)) ?_
    refine rd1 9 rfl (fun K hK=>?_)
    go_simp
    refine (HM.out _).mono ?_
    rintro x x1 ⟨rfl,hx1⟩
    have HX1:=hide (o2 hHeld hx1)
    clear hx1
    refine hK.out _ _ (HX1.out) (fun hHeld=>?_)
    clear hK K
    try simp only [Act.put,lsA,lsB,lsC]
    refine tkP 10 (.bool false) rfl ?_
    refine tkP 11 (.bool false) rfl ?_
    refine tkQ 12 undef rfl (Or.inr ⟨by rfl,rfl⟩) ?_
    refine tkQ 13 undef rfl (Or.inr ⟨by rfl,rfl⟩) ?_
    refine tkQ 14 undef rfl (Or.inr ⟨by rfl,rfl⟩) ?_
    refine tkP 15 (.bool false) rfl ?_
    refine tkP 16 (.bool false) rfl ?_
    refine dnN ?_
    go_wp2_with fail
    go_ret
    obtain rfl:=HR.out
    exact ⟨rfl,o2 HX.out.2.2 HX1.out⟩
    -- r3b}
theorem follows_any (W:World) (base C n2 C2:Nat) (A A2:Option Addr) (hi e:En) (es:List En) (n:Nat) (hn:es.length=n) (hl:n≤8796093021952) (hE:Ets W base (.slice A n C) es) :
    Calls Tryz.prog 140 #[.agg #[.slice A n C,.slice A2 n2 C2,.string hi.key,.int .i64 hi.page,.int .i64 hi.slot],.agg #[.string e.key,.int .i64 e.page,.int .i64 e.slot]] W fun x w'=>x=.returned (.bool (okI hi es.getLast? e))∧Only (fun _=>False) W w':=by
  subst hn
  cases hx:es.getLast? with
  | none=>
    have e0:es=[]:=List.getLast?_eq_none_iff.1 hx
    subst e0
    exact follows_nil W A A2 C n2 C2 hi e
  | some la=>
    obtain ⟨ini,rfl⟩:=List.getLast?_eq_some_iff.1 hx
    obtain ⟨B,ao,cp,hv,hels,_,_⟩:=hE.els
    have hlen:(ini++[la]).length=ini.length+1:=by simp
    obtain ⟨o,hao,hat⟩:=hels.at_ (by omega)
    have hv':A=ao:=by injection hv
    subst hao
    subst hv'
    have hb:=hat ini.length (by omega)
    have e1:(ini++[la])[ini.length]'(by omega)=la:=by simp
    rw [e1] at hb
    have q:=follows_one W B o ini.length C n2 C2 A2 hi e la hb (by omega)
    rw [hlen]
    exact q
theorem I64.of {n:Int} (h0:-9223372036854775808≤n) (h1:n < 9223372036854775808):I64 n:=⟨h0,h1⟩
theorem add_any (m x n:Int) (w:World) (hm:I64 m) (hx:I64 x) (hn:I64 n) :
    Calls Tryz.prog 64 #[.int .i64 m,.int .i64 x,.int .i64 n] w fun e w'=>e=.returned (.int .i64 (xadd m x n))∧w'=w:=by
  have hc:=isID_any m x w hm hx
  by_cases hI:Idd m x
  · rw [decide_eq_true hI] at hc
    have h16:=hI.1.1
    have h1024:=hI.1.2.1
    have hx1:=hI.2.1
    have hx2:=hI.2.2
    have hb:=tmod_bd (n:=n) h16
    have ha:=fun w=>around_any m (x - 1+n.tmod m) w h16 h1024 (I64.of (by omega) (by omega))
    rw [add_is h16] at ha
    have hq:xadd m x n=(x - 1+n) % m+1:=by unfold xadd; rw [if_pos hI]
    have hs:=emod_bd (n:=x - 1+n) h16
    rw [hq]
    have hn1:=hn.1
    have hn2:=hn.2
    clear hI hm hx hn hq
    obtain ⟨r,hr⟩:=exq ((x - 1+n) % m)
    rw [hr] at ha hs
    rw [hr]
    clear hr
    obtain ⟨k,hk⟩:=exq (n.tmod m)
    rw [hk] at ha hb
    go_enter Tryz.func64,Tryz.ntmps64
    go_wp2_with (first
      | (go_at_call 109; refine hc.mono ?_; rintro e w' ⟨rfl,hw⟩; obtain rfl:=hw.symm; clear hw)
      | (go_at_call 110; refine (ha _).mono ?_; rintro e w' ⟨rfl,hw⟩; obtain rfl:=hw.symm; clear hw))
    go_ret
    exact ⟨rfl,rfl⟩
  · rw [decide_eq_false hI] at hc
    have hq:xadd m x n=0:=by unfold xadd; rw [if_neg hI]
    rw [hq]
    clear hI hq hm hx hn
    go_enter Tryz.func64,Tryz.ntmps64
    go_wp2_with (first
      | (go_at_call 109; refine hc.mono ?_; rintro e w' ⟨rfl,hw⟩; obtain rfl:=hw.symm; clear hw))
    go_ret
    exact ⟨rfl,rfl⟩
theorem gap_any (m a b:Int) (w:World) (hm:I64 m) (ha:I64 a) (hb:I64 b) :
    Calls Tryz.prog 205 #[.int .i64 m,.int .i64 a,.int .i64 b] w fun e w'=>e=.returned (.int .i64 (xgap m a b))∧w'=w:=by
  have hc:=isID_any m a w hm ha
  have hd:=isID_any m b w hm hb
  by_cases hI:Idd m a
  · rw [decide_eq_true hI] at hc
    by_cases hJ:Idd m b
    · rw [decide_eq_true hJ] at hd
      have h16:=hI.1.1
      have h1024:=hI.1.2.1
      have hx1:=hI.2.1
      have hx2:=hI.2.2
      have hy1:=hJ.2.1
      have hy2:=hJ.2.2
      have hr:=fun w=>around_any m (b - a) w h16 h1024 (I64.of (by omega) (by omega))
      have hq:xgap m a b=(b - a) % m:=by unfold xgap; rw [if_pos ⟨hI,hJ⟩]
      rw [hq]
      clear hI hJ hq hm ha hb
      obtain ⟨k,hk⟩:=exq ((b - a) % m)
      rw [hk] at hr
      rw [hk]
      clear hk
      go_enter Tryz.func205,Tryz.ntmps205
      go_wp2_with fail
      go_at_call 109
      refine (hc).mono ?_
      rintro e w' ⟨rfl,hw⟩; obtain rfl:=hw.symm; clear hw
      go_wp2_with fail
      go_at_call 109
      refine (hd).mono ?_
      rintro e w' ⟨rfl,hw⟩; obtain rfl:=hw.symm; clear hw
      go_wp2_with fail
      go_at_call 110
      refine (hr _).mono ?_
      rintro e w' ⟨rfl,hw⟩; obtain rfl:=hw.symm; clear hw
      go_wp2_with fail
      go_ret
      exact ⟨rfl,rfl⟩
    · rw [decide_eq_false hJ] at hd
      have hq:xgap m a b=0:=by unfold xgap; rw [if_neg (fun h=>hJ h.2)]
      rw [hq]
      clear hI hJ hq hm ha hb
      go_enter Tryz.func205,Tryz.ntmps205
      go_wp2_with fail
      go_at_call 109
      refine (hc).mono ?_
      rintro e w' ⟨rfl,hw⟩; obtain rfl:=hw.symm; clear hw
      go_wp2_with fail
      go_at_call 109
      refine (hd).mono ?_
      rintro e w' ⟨rfl,hw⟩; obtain rfl:=hw.symm; clear hw
      go_wp2_with fail
      go_ret
      exact ⟨rfl,rfl⟩
  · rw [decide_eq_false hI] at hc
    have hq:xgap m a b=0:=by unfold xgap; rw [if_neg (fun h=>hI h.1)]
    rw [hq]
    clear hI hq hm ha hb hd
    go_enter Tryz.func205,Tryz.ntmps205
    go_wp2_with (first
      | (go_at_call 109; refine hc.mono ?_; rintro e w' ⟨rfl,hw⟩; obtain rfl:=hw.symm; clear hw))
    go_ret
    exact ⟨rfl,rfl⟩
theorem xgap_id {m a b:Int} (h:1≤xgap m a b):16≤m∧m≤1024:=by
  unfold xgap at h
  split at h
  · rename_i k
    exact ⟨k.1.1.1,k.1.1.2.1⟩
  · omega
theorem before_any (m a b:Int) (w:World) (hm:I64 m) (ha:I64 a) (hb:I64 b) :
    Calls Tryz.prog 204 #[.int .i64 m,.int .i64 a,.int .i64 b] w fun e w'=>e=.returned (.bool (xbef m a b))∧w'=w:=by
  have hc:=gap_any m a b w hm ha hb
  have hbd:=xgap_bd (m:=m) (a:=a) (b:=b)
  have hid:=xgap_id (m:=m) (a:=a) (b:=b)
  obtain ⟨k,hk⟩:=exq (xgap m a b)
  have hX:xbef m a b=decide (1≤k∧k≤m / 2 - 1):=by unfold xbef; rw [hk]
  rw [hX]
  rw [hk] at hc hbd hid
  clear hX hk hm ha hb
  by_cases h1:1≤k
  · obtain ⟨h16,h1024⟩:=hid h1
    clear hid
    by_cases h2:k≤m / 2 - 1
    · rw [show decide (1≤k∧k≤m / 2 - 1)=true from by simp [h1,h2]]
      go_enter Tryz.func204,Tryz.ntmps204
      go_wp2_with (first
        | (go_at_call 205; refine hc.mono ?_; rintro e w' ⟨rfl,hw⟩; obtain rfl:=hw.symm; clear hw))
      go_ret
      exact ⟨rfl,rfl⟩
    · rw [show decide (1≤k∧k≤m / 2 - 1)=false from by simp [h2]]
      have hd:decide (k≤m / 2 - 1)=false:=decide_eq_false h2
      go_enter Tryz.func204,Tryz.ntmps204
      go_wp2_with (first
        | (go_at_call 205; refine hc.mono ?_; rintro e w' ⟨rfl,hw⟩; obtain rfl:=hw.symm; clear hw))
      go_ret
      exact ⟨rfl,rfl⟩
  · rw [show decide (1≤k∧k≤m / 2 - 1)=false from by simp [h1]]
    clear hid
    go_enter Tryz.func204,Tryz.ntmps204
    go_wp2_with (first
      | (go_at_call 205; refine hc.mono ?_; rintro e w' ⟨rfl,hw⟩; obtain rfl:=hw.symm; clear hw))
    go_ret
    exact ⟨rfl,rfl⟩
/- The document's. -/
def dig (b k:Nat):Nat:=b / 4 ^ k % 4
def put4 (b k v:Nat):Nat:=b - dig b k * 4 ^ k+v * 4 ^ k
theorem k4 {k:Nat} (h:k < 4):k=0∨k=1∨k=2∨k=3:=by omega
theorem put4_lt {b k v:Nat} (hb:b < 256) (hk:k < 4) (hv:v < 4):put4 b k v < 256:=by
  rcases k4 hk with rfl | rfl | rfl | rfl <;> simp only [put4,dig,Nat.reducePow] <;> omega
theorem dig_put {b k v:Nat} (hk:k < 4) (hv:v < 4):dig (put4 b k v) k=v:=by
  rcases k4 hk with rfl | rfl | rfl | rfl <;> simp only [put4,dig,Nat.reducePow] <;> omega
theorem dig_other {b k j v:Nat} (hk:k < 4) (hj:j < 4) (hv:v < 4) (h:j≠k):dig (put4 b k v) j=dig b j:=by
  rcases k4 hk with rfl | rfl | rfl | rfl <;> rcases k4 hj with rfl | rfl | rfl | rfl <;> simp only [put4,dig,Nat.reducePow] <;> omega
theorem dig_lt (b k:Nat):dig b k < 4:=Nat.mod_lt _ (by decide)
def byt (l:List UInt8) (j:Nat):Nat:=(l.getD j 0).toNat
theorem byt_lt (l:List UInt8) (j:Nat):byt l j < 256:=UInt8.toNat_lt _
def stAt (l:List UInt8) (i:Nat):Nat:=dig (byt l (i / 4)) (i % 4)
def stSet (l:List UInt8) (i v:Nat):List UInt8:=l.set (i / 4) (UInt8.ofNat (put4 (byt l (i / 4)) (i % 4) v))
theorem stSet_len (l:List UInt8) (i v:Nat):(stSet l i v).length=l.length:=by simp [stSet]
theorem stAt_lt (l:List UInt8) (i:Nat):stAt l i < 4:=dig_lt _ _
theorem byt_set {l:List UInt8} {j n:Nat} (hj:j < l.length) (hn:n < 256) (k:Nat):byt (l.set j (UInt8.ofNat n)) k=if k=j then n else byt l k:=by
  unfold byt
  split
  · rename_i e
    subst e
    rw [List.getD_eq_getElem?_getD,List.getElem?_set_self hj]
    exact UInt8.toNat_ofNat_of_lt' hn
  · rename_i e
    rw [List.getD_eq_getElem?_getD,List.getElem?_set_ne (by omega),← List.getD_eq_getElem?_getD]
theorem stAt_set {l:List UInt8} {i v:Nat} (hi:i / 4 < l.length) (hv:v < 4) (j:Nat):stAt (stSet l i v) j=if j=i then v else stAt l j:=by
  have h4:i % 4 < 4:=Nat.mod_lt _ (by decide)
  have hp:=put4_lt (byt_lt l (i / 4)) h4 hv
  unfold stAt stSet
  rw [byt_set hi hp]
  by_cases e:j / 4=i / 4
  · rw [if_pos e]
    by_cases e2:j=i
    · subst e2
      rw [if_pos rfl]
      exact dig_put h4 hv
    · rw [if_neg e2,e]
      exact dig_other h4 (Nat.mod_lt _ (by decide)) hv (by omega)
  · rw [if_neg e,if_neg (by intro h; exact e (by rw [h]))]
def nb (m:Int):Nat:=((m+3) / 4).toNat
def lim (m:Int) (s:ByteArray):Int:=if (rdN m (bl s)).2.2=0∧(rdN m (bl s)).2.1=[] then (rdN m (bl s)).1 else 0
theorem lim_bd {m:Int} (hm:0≤m) (s:ByteArray):0≤lim m s∧lim m s≤m:=by
  unfold lim
  split
  · rename_i h
    have h1:=(rdN_facts m (bl s)).1
    refine ⟨h1,?_⟩
    unfold rdN at h ⊢
    split at h
    · rename_i h2
      rw [if_pos h2]
      split at h
      · simp at h
      · rename_i h3
        rw [if_neg h3]
        show (rd 0 0 (bl s)).1≤m
        omega
    · simp at h; rename_i h2; exact absurd h h2
  · omega
theorem lim_canon {m:Int} {s:ByteArray} (h:lim m s≠0):s=str (sev (lim m s).toNat):=by
  have hq:(rdN m (bl s)).2.2=0∧(rdN m (bl s)).2.1=[]:=by
    apply Classical.byContradiction
    intro hn
    exact h (by unfold lim; rw [if_neg hn])
  have e:lim m s=(rdN m (bl s)).1:=by unfold lim; rw [if_pos hq]
  have hc:=rdN_canon m (bl s) hq.1
  rw [hq.2,List.append_nil,← e] at hc
  rw [← hc,str_bl]
theorem lim_sev {m f:Int} (h0:0≤f) (h1:f≤m) (h2:m≤1024):lim m (str (sev f.toNat))=f:=by
  have hr := rd_sev 9 0 f.toNat 0 [] rfl (by have:(128:Nat) ^ 9=9223372036854775808:=by decide
                                             omega) (by omega) (by omega)
  rw [List.append_nil] at hr
  have e:rdN m (sev f.toNat)=(f,[],0):=by
    have hf:(0:Int)+(f.toNat:Int) * 128 ^ 0=f:=by simp; omega
    have hq:rd 0 0 (sev f.toNat)=(f,((sev f.toNat).length:Int),0):=by
      have:=hr
      rw [hf,Nat.zero_add] at this
      exact this
    unfold rdN
    rw [hq]
    simp only [if_true]
    rw [if_neg (by omega)]
    simp
  unfold lim
  rw [bl_str,e]
  simp
def it0 (p:Pg):ByteArray:=p.items.getD 0 ⟨#[]⟩
def it1 (p:Pg):ByteArray:=p.items.getD 1 ⟨#[]⟩
def topOk (m:Int) (s:ByteArray):Prop:=byt (bl s) ((m - 1) / 4).toNat / 4 ^ ((m - 1) % 4).toNat≤3
structure OkP (m:Int) (p:Pg):Prop where
  kind:p.kind=1
  lsn:0≤p.lsn
  level:p.level=0
  right:p.right=0
  high:p.high=⟨#[]⟩
  two:p.items.length=2
  lm:lim m (it0 p)≠0
  size:(it1 p).size=nb m
  top:topOk m (it1 p)
open Classical in
noncomputable def chk (m:Int) (p:Pg):Int:=if Md m then (if OkP m p then 0 else 31) else 1
theorem chk_mod {m:Int} {p:Pg} (h:¬ Md m):chk m p=1:=by unfold chk; rw [if_neg h]
theorem chk_ok {m:Int} {p:Pg} (h:Md m) (k:OkP m p):chk m p=0:=by unfold chk; rw [if_pos h,if_pos k]
theorem chk_bad {m:Int} {p:Pg} (h:Md m) (k:¬ OkP m p):chk m p=31:=by unfold chk; rw [if_pos h,if_neg k]
theorem nb_bd {m:Int} (h:Md m):4≤nb m∧nb m≤256∧m≤4 * (nb m:Int)∧4 * (nb m:Int)≤m+2:=by
  obtain ⟨h1,h2,h3⟩:=h
  unfold nb
  omega
theorem top_iff {m:Int} (h:Md m) {s:ByteArray}:topOk m s ↔ ∀ i:Nat,m≤(i:Int)→i < 4 * nb m→stAt (bl s) i=0:=by
  have hn:=nb_bd h
  obtain ⟨h1,h2,h3⟩:=h
  unfold topOk
  have hb:=byt_lt (bl s) ((m - 1) / 4).toNat
  have hq:(m - 1) % 4=1∨(m - 1) % 4=3:=by omega
  rcases hq with hq | hq
  · rw [hq]
    constructor
    · intro hle i hi hi2
      have e:i / 4=((m - 1) / 4).toNat:=by omega
      have hk:i % 4=2∨i % 4=3:=by omega
      unfold stAt dig
      rw [e]
      simp only [Int.reduceToNat,Nat.pow_one] at hle
      rcases hk with hk | hk <;> rw [hk] <;> simp only [Nat.reducePow] <;> omega
    · intro ha
      have a1:=ha m.toNat (by omega) (by omega)
      have a2:=ha (m.toNat+1) (by omega) (by omega)
      unfold stAt dig at a1 a2
      rw [show m.toNat / 4=((m - 1) / 4).toNat by omega,show m.toNat % 4=2 by omega] at a1
      rw [show (m.toNat+1) / 4=((m - 1) / 4).toNat by omega,show (m.toNat+1) % 4=3 by omega] at a2
      simp only [Nat.reducePow] at a1 a2
      simp only [Int.reduceToNat,Nat.pow_one]
      omega
  · rw [hq]
    constructor
    · intro _ i hi hi2
      omega
    · intro _
      simp only [Int.reduceToNat,Nat.reducePow]
      omega
def setP (p:Pg) (x:Int) (v:Nat):Pg:=⟨p.lsn,1,0,0,⟨#[]⟩,[it0 p,str (stSet (bl (it1 p)) (x - 1).toNat v)]⟩
theorem at_lt {m x:Int} (h:Idd m x) {s:ByteArray} (hs:s.size=nb m):(x - 1).toNat / 4 < (bl s).length:=by
  have hn:=nb_bd h.1
  have:=h.2
  rw [bl_len,hs]
  omega
theorem OkP.set {m x:Int} {p:Pg} {v:Nat} (h:OkP m p) (hx:Idd m x) (hv:v < 4):OkP m (setP p x v):=by
  refine ⟨rfl,h.lsn,rfl,rfl,rfl,rfl,h.lm,?_,?_⟩
  · show (str _).size=_
    rw [str_size,stSet_len,bl_len]; exact h.size
  · rw [top_iff hx.1]
    intro i h1 h2
    show stAt (bl (str _)) i=0
    rw [bl_str,stAt_set (at_lt hx h.size) hv,if_neg (by have:=hx.2; omega)]
    exact (top_iff hx.1).1 h.top i h1 h2
def blankP (m f:Int):Pg:=⟨0,1,0,0,⟨#[]⟩,[str (sev f.toNat),str (List.replicate (nb m) 0)]⟩
theorem stAt_zero (n i:Nat):stAt (List.replicate n 0) i=0:=by
  have:byt (List.replicate n 0) (i / 4)=0:=by
    unfold byt
    rw [List.getD_eq_getElem?_getD,List.getElem?_replicate]
    split <;> rfl
  unfold stAt
  rw [this]
  unfold dig
  simp
theorem OkP.blank {m f:Int} (h:Idd m f):OkP m (blankP m f):=by
  refine ⟨rfl,by simp [blankP],rfl,rfl,rfl,rfl,?_,?_,?_⟩
  · show lim m (str (sev f.toNat))≠0
    rw [lim_sev (by have:=h.2; omega) h.2.2 h.1.2.1]
    have:=h.2
    omega
  · show (str _).size=_
    rw [str_size,List.length_replicate]
  · rw [top_iff h.1]
    intro i _ _
    show stAt (bl (str _)) i=0
    rw [bl_str,stAt_zero]
theorem xadd_zero {m x:Int}:(xadd m x 0 != 0)=decide (Idd m x):=by
  by_cases h:Idd m x
  · have:=(xadd_id (n:=0) h).2
    rw [decide_eq_true h]
    simp
    omega
  · rw [decide_eq_false h]
    unfold xadd
    rw [if_neg h]
    rfl
theorem idd_one {m:Int}:Idd m 1 ↔ Md m:=by
  unfold Idd Md
  omega
theorem cisID_any (m x:Int) (w:World) (hm:I64 m) (hx:I64 x) :
    Calls Tryz.prog 37 #[.int .i64 m,.int .i64 x] w fun e w'=>e=.returned (.bool (decide (Idd m x)))∧w'=w:=by
  have hc:=add_any m x 0 w hm hx (I64.of (by omega) (by omega))
  have hq:=xadd_zero (m:=m) (x:=x)
  have hb:=xadd_bd (m:=m) (x:=x) (n:=0)
  obtain ⟨k,hk⟩:=exq (xadd m x 0)
  rw [hk] at hc hq hb
  rw [← hq]
  have hm1:=hm.1
  have hm2:=hm.2
  have hx1:=hx.1
  have hx2:=hx.2
  clear hk hq hm hx
  go_enter Tryz.func37,Tryz.ntmps37
  go_wp2_with (go_at_call 64; refine hc.mono ?_; rintro e w' ⟨rfl,hw⟩; obtain rfl:=hw.symm; clear hw)
  go_ret
  exact ⟨rfl,rfl⟩
theorem cisModulus_any (m:Int) (w:World) (hm:I64 m) :
    Calls Tryz.prog 117 #[.int .i64 m] w fun e w'=>e=.returned (.bool (decide (Md m)))∧w'=w:=by
  have hc:=cisID_any m 1 w hm (I64.of (by omega) (by omega))
  rw [show decide (Idd m 1)=decide (Md m) from decide_eq_decide.2 idd_one] at hc
  obtain ⟨b,hb⟩:=exq (decide (Md m))
  rw [hb] at hc
  rw [hb]
  have hm1:=hm.1
  have hm2:=hm.2
  clear hb hm
  go_enter Tryz.func117,Tryz.ntmps117
  go_wp2_with (go_at_call 37; refine hc.mono ?_; rintro e w' ⟨rfl,hw⟩; obtain rfl:=hw.symm; clear hw)
  go_ret
  exact ⟨rfl,rfl⟩
theorem statusBytes_any (m:Int) (w:World) (h:Md m) :
    Calls Tryz.prog 40 #[.int .i64 m] w fun e w'=>e=.returned (.int .i64 (nb m:Int))∧w'=w:=by
  have hn:(m+3) / 4=(nb m:Int):=by have:=h.1; unfold nb; omega
  have h1:=h.1
  have h2:=h.2.1
  have hb:=(nb_bd h).2.1
  have ht:(m+3).tdiv 4=(nb m:Int):=by rw [← hn]; exact Int.tdiv_eq_ediv_of_nonneg (by omega)
  clear h hn
  obtain ⟨n,hn⟩:=exq (nb m)
  rw [hn] at ht hb
  rw [hn]
  clear hn
  have e:m+4 - 1=m+3:=by omega
  go_enter Tryz.func40,Tryz.ntmps40
  go_wp2
  go_ret
  exact ⟨ret_int (by go_num),rfl⟩
theorem cplace_any (x:Int) (w:World) (h1:1≤x) (h2:x≤1024) :
    Calls Tryz.prog 75 #[.int .i64 x] w fun e w'=>e=.returned (.tuple #[.int .i64 (((x - 1).toNat / 4:Nat):Int),.int .i64 ((2 * ((x - 1).toNat % 4):Nat):Int)])∧w'=w:=by
  have e1:(x - 1).tdiv 4=(((x - 1).toNat / 4:Nat):Int):=by rw [Int.tdiv_eq_ediv_of_nonneg (by omega)]; omega
  have e2:(x - 1).tmod 4 * 2=((2 * ((x - 1).toNat % 4):Nat):Int):=by rw [Int.tmod_eq_emod_of_nonneg (by omega)]; omega
  have b1:(x - 1).toNat / 4≤256:=by omega
  have b2:2 * ((x - 1).toNat % 4)≤6:=by omega
  obtain ⟨q,hq⟩:=exq ((x - 1).toNat / 4)
  obtain ⟨r,hr⟩:=exq (2 * ((x - 1).toNat % 4))
  obtain ⟨t,ht⟩:=exq ((x - 1).tmod 4)
  rw [ht] at e2
  rw [hq] at e1 b1
  rw [hr] at e2 b2
  rw [hq,hr]
  have b3:0≤t∧t≤3:=by omega
  clear hq hr
  go_enter Tryz.func75,Tryz.ntmps75
  go_wp2
  go_ret2
  exact ⟨rfl,rfl⟩
theorem laidLimit_any (x:Int) (w:World) (h1:0≤x) (h2:x≤1024) :
    Calls Tryz.prog 38 #[.int .i64 x] w fun e w'=>e=.returned (.string (str (sev x.toNat)))∧Only (fun _=>False) w w':=by
  obtain ⟨b,hb⟩:=exq (w.heap.size)
  have HN:=hide (new_any w)
  rw [hb] at HN
  have HB:=hide hb
  clear hb
  go_enter Tryz.func38,Tryz.ntmps38
  go_wp2_with fail
  refine HN.out.mono ?_
  rintro e w1 ⟨rfl,hw1⟩
  have HW:Hid (Wr w1 b none []):=by unfold Hid; rw [hw1,← HB.out]; exact Wr.new w
  have HO:Hid (Only (fun _=>False) w w1):=by unfold Hid; rw [hw1]; exact onlyA _ _
  clear hw1 HN
  go_wp2_with fail
  refine (wnum_one w1 b none [] x HW.out (by omega) (by simp)).mono ?_
  rintro e w2 ⟨rfl,row,hW2,hg⟩
  have HW2:=hide hW2
  have HG:=hide hg
  clear hW2 hg
  go_wp2_with fail
  refine (wbytes_any w2 b row _ HW2.out).mono ?_
  rintro e w3 ⟨rfl,hw⟩
  obtain rfl:=hw.symm
  clear hw
  go_wp2_with fail
  go_ret
  refine ⟨rfl,HO.out.trans HG.out.only ?_⟩
  intro i hi ht
  have:=HB.out
  rcases ht with ht | ht
  · omega
  · cases ht
theorem readLimit_any (m:Int) (s:ByteArray) (w:World) (h1:0≤m) :
    Calls Tryz.prog 119 #[.int .i64 m,.string s] w fun e w'=>e=.returned (.int .i64 (lim m s))∧Only (fun _=>False) w w':=by
  obtain ⟨b,hb⟩:=exq (w.heap.size)
  have HN:=hide (read_any s w)
  rw [hb] at HN
  have HB:=hide hb
  clear hb
  have HL:=hide (lim_bd h1 s)
  obtain ⟨n,hn⟩:=exq ((rdN m (bl s)).1)
  obtain ⟨z,hz⟩:=exq ((rdN m (bl s)).2.2)
  obtain ⟨r,hr⟩:=exq ((rdN m (bl s)).2.1)
  have HC:Hid (lim m s=if z=0∧r=[] then n else 0):=by unfold Hid lim; rw [hn,hz,hr]
  have HR:Hid (∀ w1,Rd w1 b s 0→Calls Tryz.prog 144 #[.pointer (some ⟨b,0,none⟩),.int .i64 m] w1 fun e w'=>e=.returned (.int .i64 n)∧Rd w' b ⟨r.toArray⟩ z∧Only (fun k=>k=b) w1 w'):=by
    intro w1 hR
    have:=rnum_any w1 b s m hR
    rw [hn,hz,hr] at this
    exact this
  have hbn:=rdN_facts m (bl s)
  rw [hn] at hbn
  have hn0:=hbn.1
  have hn1:=hbn.2.1
  clear hn hz hr hbn
  go_enter Tryz.func119,Tryz.ntmps119
  go_wp2_with fail
  refine HN.out.mono ?_
  rintro e w1 ⟨rfl,hw1⟩
  have HW:Hid (Rd w1 b s 0):=by unfold Hid; rw [hw1,← HB.out]; exact Rd.new w s
  have HO:Hid (Only (fun _=>False) w w1):=by unfold Hid; rw [hw1]; exact onlyA _ _
  clear hw1 HN
  go_wp2_with fail
  refine (HR.out w1 HW.out).mono ?_
  rintro e w2 ⟨rfl,hR2,ho2⟩
  have HR2:=hide hR2
  have HO2:Hid (Only (fun _=>False) w w2):=HO.out.trans ho2 (by intro i hi ht; have:=HB.out; omega)
  clear hR2 ho2
  by_cases hz:z=0
  · have HE:=hide (rend_ok w2 b ⟨r.toArray⟩ (by have:=HR2.out.c1; rw [hz] at this; exact this) HR2.out.c0)
    by_cases hr:r=[]
    · have HV:Hid (lim m s=n):=by unfold Hid; rw [HC.out,if_pos ⟨hz,hr⟩]
      have e0:(ByteArray.mk r.toArray).size=0:=by rw [hr]; rfl
      rw [if_pos e0] at HE
      clear hz hr e0
      go_wp2_with fail
      refine HE.out.mono ?_
      rintro e w3 ⟨rfl,hw⟩
      obtain rfl:=hw.symm
      clear hw
      go_wp2_with fail
      go_ret
      exact ⟨ret_int HV.out.symm,HO2.out⟩
    · have HV:Hid (lim m s=0):=by unfold Hid; rw [HC.out,if_neg (fun k=>hr k.2)]
      have e0:¬ (ByteArray.mk r.toArray).size=0:=by
        intro h
        apply hr
        exact List.eq_nil_of_length_eq_zero (by simpa [ByteArray.size] using h)
      rw [if_neg e0] at HE
      clear hz hr e0
      go_wp2_with fail
      refine HE.out.mono ?_
      rintro e w3 ⟨rfl,hw⟩
      obtain rfl:=hw.symm
      clear hw
      go_wp2_with fail
      go_ret
      exact ⟨ret_int HV.out.symm,HO2.out⟩
  · have HV:Hid (lim m s=0):=by unfold Hid; rw [HC.out,if_neg (fun k=>hz k.1)]
    have hzz:(z != 0)=true:=by simp [hz]
    have HE:=hide (rend_err w2 b z HR2.out.c1 hzz)
    clear hz
    go_wp2_with fail
    refine HE.out.mono ?_
    rintro e w3 ⟨rfl,hw⟩
    obtain rfl:=hw.symm
    clear hw
    go_wp2_with fail
    go_ret
    exact ⟨ret_int HV.out.symm,HO2.out⟩
theorem lay_byte:∀ b:Fin 256,∀ k:Fin 4,∀ v:Fin 4,bits BinOp.or IntKind.u8 (bits BinOp.andNot IntKind.u8 (b.val:Int) ((3 * 4 ^ k.val:Nat) % 256:Int)) ((v.val * 4 ^ k.val:Nat):Int)=(put4 b.val k.val v.val:Int):=by
  decide +kernel
instance (m:Int) (s:ByteArray):Decidable (topOk m s):=by unfold topOk; infer_instance
theorem empty_iff (h:ByteArray):h.toList.isEmpty=decide (h=⟨#[]⟩):=by
  rw [ByteArray.toList_eq]
  obtain ⟨⟨l⟩⟩:=h
  cases l <;> simp
theorem careStatuses_any (m:Int) (s:ByteArray) (w:World) (h:Md m) :
    Calls Tryz.prog 120 #[.int .i64 m,.string s] w fun e w'=>e=.returned (.bool (decide (s.size=nb m∧topOk m s)))∧w'=w:=by
  have HB:=hide (statusBytes_any m w h)
  have h16:=h.1
  have h1024:=h.2.1
  by_cases hn:s.size=nb m
  · have HP:=hide (cplace_any m w (by omega) h1024)
    have hq:((m - 1).toNat / 4:Nat) < s.size:=by have:=nb_bd h; omega
    have e1:((m - 1) / 4).toNat=(m - 1).toNat / 4:=by omega
    have e2:((m - 1) % 4).toNat=(m - 1).toNat % 4:=by omega
    have hk4:(m - 1).toNat % 4 < 4:=by omega
    obtain ⟨R,hR⟩:=exq (decide (s.size=nb m∧topOk m s))
    have HT:Hid (R=decide (byt (bl s) ((m - 1).toNat / 4) / 4 ^ ((m - 1).toNat % 4)≤3)):=by
      unfold Hid
      rw [← hR]
      refine decide_eq_decide.2 ?_
      unfold topOk
      rw [e1,e2]
      exact ⟨fun h=>h.2,fun h=>⟨hn,h⟩⟩
    rw [hR]
    have hsn:(s.size:Int)=(nb m:Int):=by omega
    obtain ⟨q,hqq⟩:=exq ((m - 1).toNat / 4)
    obtain ⟨k,hkk⟩:=exq ((m - 1).toNat % 4)
    rw [hqq,hkk] at HP HT
    rw [hqq] at hq
    rw [hkk] at hk4
    clear e1 e2 hn hqq hkk h hR
    have HBY:Hid (byt (bl s) q=(s[q]'hq).toNat):=by
      unfold Hid byt
      rw [List.getD_eq_getElem?_getD,List.getElem?_eq_getElem (by rw [bl_len]; exact hq)]
      rfl
    have hqi:(q:Int) < (s.size:Int):=by omega
    rcases k4 hk4 with rfl | rfl | rfl | rfl
    · go_enter Tryz.func120,Tryz.ntmps120
      go_wp2_with fail
      refine HB.out.mono ?_
      rintro e w1 ⟨rfl,hw⟩
      obtain rfl:=hw.symm
      clear hw
      go_wp2_with fail
      refine HP.out.mono ?_
      rintro e w1 ⟨rfl,hw⟩
      obtain rfl:=hw.symm
      clear hw
      go_wp2_with fail
      go_ret
      refine ⟨ret_bool ?_,rfl⟩
      rw [HT.out,HBY.out]
      exact decide_eq_decide.2 (by simp only [Nat.reducePow]; omega)
    · go_enter Tryz.func120,Tryz.ntmps120
      go_wp2_with fail
      refine HB.out.mono ?_
      rintro e w1 ⟨rfl,hw⟩
      obtain rfl:=hw.symm
      clear hw
      go_wp2_with fail
      refine HP.out.mono ?_
      rintro e w1 ⟨rfl,hw⟩
      obtain rfl:=hw.symm
      clear hw
      go_wp2_with fail
      go_ret
      refine ⟨ret_bool ?_,rfl⟩
      rw [HT.out,HBY.out]
      exact decide_eq_decide.2 (by simp only [Nat.reducePow]; omega)
    · go_enter Tryz.func120,Tryz.ntmps120
      go_wp2_with fail
      refine HB.out.mono ?_
      rintro e w1 ⟨rfl,hw⟩
      obtain rfl:=hw.symm
      clear hw
      go_wp2_with fail
      refine HP.out.mono ?_
      rintro e w1 ⟨rfl,hw⟩
      obtain rfl:=hw.symm
      clear hw
      go_wp2_with fail
      go_ret
      refine ⟨ret_bool ?_,rfl⟩
      rw [HT.out,HBY.out]
      exact decide_eq_decide.2 (by simp only [Nat.reducePow]; omega)
    · go_enter Tryz.func120,Tryz.ntmps120
      go_wp2_with fail
      refine HB.out.mono ?_
      rintro e w1 ⟨rfl,hw⟩
      obtain rfl:=hw.symm
      clear hw
      go_wp2_with fail
      refine HP.out.mono ?_
      rintro e w1 ⟨rfl,hw⟩
      obtain rfl:=hw.symm
      clear hw
      go_wp2_with fail
      go_ret
      refine ⟨ret_bool ?_,rfl⟩
      rw [HT.out,HBY.out]
      exact decide_eq_decide.2 (by simp only [Nat.reducePow]; omega)
  · have hd:decide (s.size=nb m∧topOk m s)=false:=by simp [hn]
    rw [hd]
    obtain ⟨n,hnn⟩:=exq (nb m)
    have hne:¬ (s.size:Int)=(n:Int):=by omega
    rw [hnn] at HB
    clear hn hd hnn h
    go_enter Tryz.func120,Tryz.ntmps120
    go_wp2_with fail
    refine HB.out.mono ?_
    rintro e w1 ⟨rfl,hw⟩
    obtain rfl:=hw.symm
    clear hw
    go_wp2_with fail
    go_ret
    exact ⟨rfl,rfl⟩
theorem isHead_any (w:World) (a k v r:Int) (h:ByteArray) (cp n:Nat) (ao:Option Addr) :
    Calls Tryz.prog 118 #[.agg #[.int .i64 a,.int .i64 k,.int .i64 v,.int .i64 r,.string h,.slice ao n cp]] w fun e w'=>e=.returned (.bool (decide (k=1∧0≤a∧v=0∧r=0∧h=⟨#[]⟩)))∧Only (fun _=>False) w w':=by
  have HO:=hide (onlyA w (.cells #[.int .i64 a,.int .i64 k,.int .i64 v,.int .i64 r,.string h,.slice ao n cp] 37))
  go_enter Tryz.func118,Tryz.ntmps118
  go_wp2_with fail
  all_goals go_ret
  all_goals refine ⟨ret_bool ?_,onlyA _ _⟩
  all_goals clear HO
  all_goals (try rw [empty_iff])
  all_goals simp_all
  all_goals omega
structure Byt (w:World) (g:Nat) (l:List UInt8):Prop where
  c:∀ j (h:j < l.length),w.cell? ⟨g,j,none⟩=some (.int .u8 (l[j].toNat:Int))
  f:∀ j,j < l.length→w.frozen? ⟨g,j,none⟩=false
  lt:g < w.heap.size
theorem Byt.set {w:World} {g:Nat} {l:List UInt8} (h:Byt w g l) {j n:Nat} (hj:j < l.length) (hn:n < 256) {V:Int} (hV:V=(n:Int)) :
    Byt (w.setCell ⟨g,j,none⟩ (.int .u8 V)).drew g (l.set j (UInt8.ofNat n))∧Only (fun k=>k=g) w (w.setCell ⟨g,j,none⟩ (.int .u8 V)).drew:=by
  subst hV
  refine ⟨⟨fun i hi=>?_,fun i hi=>?_,?_⟩,(Only.setCell (S:=fun k=>k=g) w ⟨g,j,none⟩ _ rfl).trans (Only.drew _ _) (fun _ _ h=>h)⟩
  · have hi':=hi
    rw [List.length_set] at hi'
    show (w.setCell ⟨g,j,none⟩ (.int .u8 (n:Int))).cell? ⟨g,i,none⟩=_
    by_cases e:i=j
    · subst e
      rw [World.cell?_setCell_same _ _ _ (h.c i hi')]
      simp only [List.getElem_set_self]
      rw [UInt8.toNat_ofNat_of_lt' hn]
    · rw [World.cell?_setCell_other _ _ _ _ (by intro q; injection q with _ q; exact e q.symm),h.c i hi',List.getElem_set_ne (by omega)]
  · rw [List.length_set] at hi
    have:=h.f i hi
    simpa using this
  · have:=h.lt
    simpa using this
theorem Byt.st {w:World} {g:Nat} {l:List UInt8} (h:Byt w g l) {i v k:Nat} (hi:i / 4 < l.length) (hk:i % 4=k) (hv:v < 4) {V:Int} (hV:V=(put4 (l[i / 4]).toNat k v:Int)) :
    Byt (w.setCell ⟨g,i / 4,none⟩ (.int .u8 V)).drew g (stSet l i v)∧Only (fun k=>k=g) w (w.setCell ⟨g,i / 4,none⟩ (.int .u8 V)).drew:=by
  have hb:byt l (i / 4)=(l[i / 4]).toNat:=by
    unfold byt
    rw [List.getD_eq_getElem?_getD,List.getElem?_eq_getElem hi]
    rfl
  subst hk
  rw [← hb] at hV
  exact h.set hi (put4_lt (byt_lt _ _) (Nat.mod_lt _ (by decide)) hv) hV
theorem clay_any (w:World) (g cp:Nat) (l:List UInt8) (x:Int) (v:Nat) (hB:Byt w g l) (h1:1≤x) (h2:x≤1024) (hx:(x - 1).toNat / 4 < l.length) (hv:v < 4) :
    Calls Tryz.prog 42 #[.slice (some ⟨g,0,none⟩) l.length cp,.int .i64 x,.int .u8 (v:Int)] w fun e w'=>e=.returned (.tuple #[])∧Byt w' g (stSet l (x - 1).toNat v)∧Only (fun k=>k=g) w w':=by
  have HP:=hide (cplace_any x w h1 h2)
  obtain ⟨q,hq⟩:=exq ((x - 1).toNat / 4)
  obtain ⟨k,hk⟩:=exq ((x - 1).toNat % 4)
  have hk4:k < 4:=by omega
  have c0:=hB.c q (by omega)
  have f0:=hB.f q (by omega)
  rw [hq,hk] at HP
  have hql:(q:Int) < (l.length:Int):=by omega
  have HST:Hid (∀ V:Int,V=(put4 (l[q]).toNat k v:Int)→Byt (w.setCell ⟨g,q,none⟩ (.int .u8 V)).drew g (stSet l (x - 1).toNat v)∧Only (fun k=>k=g) w (w.setCell ⟨g,q,none⟩ (.int .u8 V)).drew):=by
    intro V hV
    subst hq
    exact hB.st hx hk hv hV
  have hb:=UInt8.toNat_lt l[q]
  have HLB:=hide (lay_byte ⟨(l[q]).toNat,hb⟩ ⟨k,hk4⟩ ⟨v,hv⟩)
  obtain ⟨n,hn⟩:=exq ((l[q]).toNat)
  simp only [hn] at HLB HST hb
  rw [hn] at c0
  clear hB hn hk h1 h2
  rcases k4 hk4 with rfl | rfl | rfl | rfl
  · go_enter Tryz.func42,Tryz.ntmps42
    go_wp2_with fail
    refine HP.out.mono ?_
    rintro e w1 ⟨rfl,hw⟩
    obtain rfl:=hw.symm
    clear hw
    go_wp2_with fail
    go_region
    go_wp2_with fail
    go_end0
    refine ⟨rfl,HST.out _ ?_⟩
    have:=HLB.out
    simp at this
    exact this
  · go_enter Tryz.func42,Tryz.ntmps42
    go_wp2_with fail
    refine HP.out.mono ?_
    rintro e w1 ⟨rfl,hw⟩
    obtain rfl:=hw.symm
    clear hw
    go_wp2_with fail
    go_region
    go_wp2_with fail
    go_end0
    refine ⟨rfl,HST.out _ ?_⟩
    have:=HLB.out
    simp at this
    exact this
  · go_enter Tryz.func42,Tryz.ntmps42
    go_wp2_with fail
    refine HP.out.mono ?_
    rintro e w1 ⟨rfl,hw⟩
    obtain rfl:=hw.symm
    clear hw
    go_wp2_with fail
    go_region
    go_wp2_with fail
    go_end0
    refine ⟨rfl,HST.out _ ?_⟩
    have:=HLB.out
    simp at this
    exact this
  · go_enter Tryz.func42,Tryz.ntmps42
    go_wp2_with fail
    refine HP.out.mono ?_
    rintro e w1 ⟨rfl,hw⟩
    obtain rfl:=hw.symm
    clear hw
    go_wp2_with fail
    go_region
    go_wp2_with fail
    go_end0
    refine ⟨rfl,HST.out _ ?_⟩
    have:=HLB.out
    simp at this
    exact this
set_option maxHeartbeats 1600000 in
theorem with_some (w:World) (a k v r:Int) (h:ByteArray) (B cp:Nat) (ao:Option Addr) (l:List ByteArray) (i:Nat) (it:ByteArray) (hS:Strs w B ao l) (hh:h.size≤140737488355328) (hit:it.size≤140737488355328) (hi:i < l.length) :
    Calls Tryz.prog 43 #[.agg #[.int .i64 a,.int .i64 k,.int .i64 v,.int .i64 r,.string h,.slice ao l.length cp],.int .i64 (i:Int),.string it] w fun e w'=>
      Or3 w w' e (255 < (l.set i it).length∨512 < 20+h.size+isz (l.set i it)) ⟨a,k,v,r,h,l.set i it⟩:=by
  have hlen:=hS.len
  have HS:=hide hS
  clear hS
  have HB0:=hide (boxes_only w a k v r h (.slice ao l.length cp))
  have HB1:=hide (boxes_one w a k v r h (.slice ao l.length cp))
  have HB2:=hide (boxes_two w a k v r h (.slice ao l.length cp))
  have HBZ:=hide (boxes_size w a k v r h (.slice ao l.length cp))
  have hi0:(0:Int)≤(i:Int):=by omega
  have hi1:(i:Int) < (l.length:Int):=by omega
  obtain ⟨nl,hnl⟩:=exq (l.set i it)
  rw [hnl]
  have HNL:=hide hnl
  have HLL:Hid (nl.length=l.length):=by unfold Hid; rw [← hnl,List.length_set]
  clear hnl
  go_enter Tryz.func43,Tryz.ntmps43
  go_wp2_with fail
  refine (hasItem_any _ a k v r (i:Int) h cp l.length ao).mono ?_
  rintro e w1 ⟨rfl,ho1⟩
  have hd:decide (0≤(i:Int)∧(i:Int) < (l.length:Int))=true:=decide_eq_true ⟨hi0,hi1⟩
  rw [hd]
  clear hd
  obtain ⟨p0,p1,p2,p3,p4,p5,g0,g1,g2,g3,g4,g5,gl⟩:=HB1.out.more ho1
  have HO1:=hide ho1
  clear ho1
  go_wp2_with fail
  refine (clone_any _ B cp ao l (HS.out.more (o2 HB0.out HO1.out))).mono ?_
  rintro e w2 ⟨v2,rfl,hl2,ho2⟩
  have HO2:=hide (o2 HO1.out ho2)
  clear p0 p1 p2 p3 p4 p5 g0 g1 g2 g3 g4 g5 gl
  obtain ⟨p0,p1,p2,p3,p4,p5,g0,g1,g2,g3,g4,g5,gl⟩:=HB1.out.more HO2.out
  obtain ⟨q0,q1,q2,q3,q4,q5,t0,t1,t2,t3,t4,t5,tl⟩:=HB2.out.more HO2.out
  rcases hl2.2 with ⟨_,hz⟩ | ⟨g,cap,cur,rfl,hgb,hgh,hnc,hcm,hcs,htk⟩
  · omega
  · have hbz:=HBZ.out
    have hs1:(boxes w a k v r h (.slice ao l.length cp)).heap.size≤w1.heap.size:=HO1.out.size
    have hne:¬ w.heap.size=g:=by omega
    have hne2:¬ w.heap.size+1=g:=by omega
    have hci:=World.ownsRow.cellAt hl2 i (by omega)
    rw [show (scells l)[i]?=some (.string l[i]) by simp [scells,hi]] at hci
    have hfi:=World.ownsRow.frozenAt hl2 i
    have HL2:=hide hl2
    have HA2:Hid (Aft w w2 a k v r h (.slice ao l.length cp) g (some ⟨g,0,none⟩) cap l):=by
      obtain ⟨B5,ao5,cp5,hv,hS5,hF5,hB5,hO5⟩:=hl2.strs hlen HS.out.size
      cases hv
      rcases hO5 with hO5 | hO5
      · cases hO5
      · cases hO5
        exact ⟨HB1.out.more HO2.out,HB2.out.more HO2.out,hS5,hF5,o2 HB0.out HO2.out,fun _=>by omega⟩
    have HGB:=hide hgb
    clear hl2 hgb hgh hcs htk hbz hs1 ho2
    obtain ⟨s,hs⟩:=exq (l[i])
    rw [hs] at hci
    clear hs
    have HA:Hid (Aft w (w2.setCell ⟨w.heap.size,5,none⟩ (.slice (some ⟨g,0,none⟩) l.length cap)) a k v r h (.slice (some ⟨g,0,none⟩) l.length cap) g (some ⟨g,0,none⟩) cap l):=HA2.out.store _
    have HA4:=hide (HA.out.setItem (base:=w1.heap.size) (HL2.out.kept (Only.setCell (S:=fun k=>k=w.heap.size) w2 ⟨w.heap.size,5,none⟩ (.slice (some ⟨g,0,none⟩) l.length cap) rfl) (fun k hk e=>by simp [Value.ownBlock] at hk; omega)) i it hit (by omega))
    rw [HNL.out] at HA4
    go_wp2_with fail
    have hf:=fitting_any _ a k v r h g cap (some ⟨g,0,none⟩) nl HA4.out.strs hh
    rw [HLL.out] at hf
    refine Calls.mono hf ?_
    clear hf
    rintro e w6 ⟨rfl,ho6⟩
    have HA6:=hide (HA4.out.more ho6)
    clear p0 p1 p2 p3 p4 p5 g0 g1 g2 g3 g4 g5 gl q0 q1 q2 q3 q4 q5 t0 t1 t2 t3 t4 t5 tl ho6 hci hfi hne hne2
    obtain ⟨q0,q1,q2,q3,q4,q5,t0,t1,t2,t3,t4,t5,tl⟩:=HA6.out.two
    have hrs:=fun (v0 v1 v2 v3 v4 v5:Value) (c:Int) (w7:World)=>HA6.out.res v0 v1 v2 v3 v4 v5 c w7
    rw [HLL.out] at hrs
    have HRS:=hide hrs
    clear hrs
    by_cases hc:255 < l.length∨512 < 20+h.size+isz nl
    · rw [if_pos hc]
      have HC:Hid (255 < nl.length∨512 < 20+h.size+isz nl):=by unfold Hid; rw [HLL.out]; exact hc
      clear hc
      go_wp2_with fail
      refine bodyPost_ret (results_page rfl rfl (Pag.six HA6.out.two _ _ _ _ _ _)) rfl ?_
      exact Or3.yes HC.out (Res.none 3 (HRS.out _ _ _ _ _ _ 0 _ rfl).2)
    · rw [if_neg hc]
      have HC:Hid (¬ (255 < nl.length∨512 < 20+h.size+isz nl)):=by unfold Hid; rw [HLL.out]; exact hc
      clear hc
      go_wp2_with fail
      refine bodyPost_ret (results_page rfl rfl (Pag.six HA6.out.two _ _ _ _ _ _)) rfl ?_
      exact Or3.no HC.out (HRS.out _ _ _ _ _ _ 0 _ rfl).1
end Go.Proofs.YtajjakljheafjaaGreat
