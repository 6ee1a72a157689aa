/- Parts. -/
import Derived.Test.YtipkeeobmihogaaGreatK38
set_option maxRecDepth 100000
namespace Go.Proofs.YtipkeeobmihogaaGreat
open Go.RowKit
theorem ab_new (w:World) (r:Br):Rg ((w.alloc (.cells r.cells 36)).alloc (.cells #[.string ⟨#[]⟩,.int .i64 0,.int .i64 0] 41)) w.heap.size 0 r.cl∧Ev ((w.alloc (.cells r.cells 36)).alloc (.cells #[.string ⟨#[]⟩,.int .i64 0,.int .i64 0] 41)) (w.heap.size+1) noE∧Only (fun _=>False) w ((w.alloc (.cells r.cells 36)).alloc (.cells #[.string ⟨#[]⟩,.int .i64 0,.int .i64 0] 41)):=by
  refine ⟨(Rg.new w r.cells 36).more (onlyA _ _),?_,o2 (onlyA _ _) (onlyA _ _)⟩
  have e1:=Ev.zero (w.alloc (.cells r.cells 36))
  rw [World.size_alloc] at e1
  exact e1
set_option maxHeartbeats 1600000 in
theorem above_no (w:World) (r:Br) (h:¬ r.kind=5∨¬ (r.il:Int)=2) :
    Calls Tryz.prog 8 #[.agg r.cells] w fun x w'=>x=.returned (.tuple #[noE.agg,.int .i64 0,.bool false])∧Only (fun _=>False) w w':=by
  have HX:=hide (ab_new w r)
  obtain ⟨k,pp,dd,ia,il,ic⟩:=r
  simp only [] at h
  unfold En.agg
  unfold Br.cells at HX ⊢
  simp only [] at HX ⊢
  go_enter Tryz.func8,Tryz.ntmps8
  go_upto_region 1 with fail
  obtain ⟨W0,hW0⟩:=exq ((w.alloc (.cells #[.int .i64 0,.int .i64 0,.int .i64 0,.int .u8 k,.int .i64 0,.int .i64 pp,.int .i64 0,.int .i64 0,.int .i64 0,.int .i64 0,.string dd,.slice Option.none 0 0,.slice Option.none 0 0,.slice ia il ic,.slice Option.none 0 0,.slice Option.none 0 0] 36)).alloc (.cells #[.string ⟨#[]⟩,.int .i64 0,.int .i64 0] 41))
  rw [hW0] at HX ⊢
  clear hW0
  have c3:=HX.out.1.cell 3 (.int .u8 k) rfl
  have c13:=HX.out.1.cell 13 (.slice ia il ic) rfl
  rw [Nat.zero_add] at c3 c13
  obtain ⟨e0,e1,e2,f0,f1,f2,_⟩:=HX.out.2.1
  by_cases hk:k=5
  · have hi:¬ (il:Int)=2:=by rcases h with q | q; exact absurd hk q; exact q
    have hi2:((il:Int) == 2)=false:=by simpa using hi
    subst hk
    clear h hi
    go_wp2_with fail
    refine bodyPost_ret (results_ev3 rfl rfl (HX.out.2.1.all noE)) rfl ?_
    exact ⟨rfl,HX.out.2.2.trans (Only.three _ _ _ _ _) (fun i hi e=>by omega)⟩
  · have hk2:(k == 5)=false:=by simpa using hk
    clear h
    go_wp2_with fail
    refine bodyPost_ret (results_ev3 rfl rfl (HX.out.2.1.all noE)) rfl ?_
    exact ⟨rfl,HX.out.2.2.trans (Only.three _ _ _ _ _) (fun i hi e=>by omega)⟩
set_option maxHeartbeats 3200000 in
theorem above_two (w:World) (pp:Int) (dd:ByteArray) (b ic:Nat) (p q:Int) (z1 z2:Pz) (C3:List Value) (e:En) (hr:Rg w b 0 (imc p z1++imc q z2++C3)) (hh:z1.p.high=e.enc) (he:e.ok=true) :
    Calls Tryz.prog 8 #[.agg (Br.cells ⟨5,pp,dd,some ⟨b,0,none⟩,2,ic⟩)] w fun x w'=>x=.returned (.tuple #[e.agg,.int .i64 q,.bool true])∧Only (fun _=>False) w w':=by
  have HX:=hide (ab_new w ⟨5,pp,dd,some ⟨b,0,none⟩,2,ic⟩)
  have HD:Hid (∀ W,Calls Tryz.prog 24 #[.string e.enc] W fun x w'=>x=.returned (.tuple #[.agg #[.string e.key,.int .i64 e.page,.int .i64 e.slot],.int .i64 0])∧Only (fun _=>False) W w'):=fun W=>by
    have h:=decode_any e.enc W
    rw [show decE (bl e.enc)=some e from decE_lay he] at h
    exact h
  have HR:=hide hr
  have c5:=hr.cell 5 (.string z1.p.high) rfl
  have c7:=hr.cell 7 (.int .i64 q) rfl
  rw [Nat.zero_add] at c5 c7
  rw [hh] at c5
  have HBL:=hide hr.lt
  clear hr hh he
  obtain ⟨S,hS⟩:=exq (e.enc)
  rw [hS] at c5 HD
  clear hS
  unfold En.agg
  unfold Br.cells at HX ⊢
  simp only [] at HX ⊢
  go_enter Tryz.func8,Tryz.ntmps8
  go_upto_region 1 with fail
  obtain ⟨W0,hW0⟩:=exq ((w.alloc (.cells #[.int .i64 0,.int .i64 0,.int .i64 0,.int .u8 5,.int .i64 0,.int .i64 pp,.int .i64 0,.int .i64 0,.int .i64 0,.int .i64 0,.string dd,.slice Option.none 0 0,.slice Option.none 0 0,.slice (some ⟨b,0,none⟩) 2 ic,.slice Option.none 0 0,.slice Option.none 0 0] 36)).alloc (.cells #[.string ⟨#[]⟩,.int .i64 0,.int .i64 0] 41))
  rw [hW0] at HX ⊢
  clear hW0
  have c3:=HX.out.1.cell 3 (.int .u8 5) rfl
  have c13:=HX.out.1.cell 13 (.slice (some ⟨b,0,none⟩) 2 ic) rfl
  rw [Nat.zero_add] at c3 c13
  have d5:=(HX.out.2.2.cell (p:=⟨b,5,none⟩) HBL.out (fun h=>h)).trans c5
  go_wp2_with fail
  refine (HD.out _).mono ?_
  rintro x w1 ⟨rfl,ho⟩
  have HR1:=hide (HX.out.1.more ho)
  have HE1:=hide (HX.out.2.1.more ho)
  have HO1:=hide (o2 HX.out.2.2 ho)
  clear ho c3 c13 d5 HX HD
  go_upto_region 4 with fail
  have HA:=hide (onlyA w1 (.cells #[.string e.key,.int .i64 e.page,.int .i64 e.slot] 41))
  have HV:=hide (Ev.new w1 e)
  obtain ⟨w2,hw2⟩:=exq (w1.alloc (.cells #[.string e.key,.int .i64 e.page,.int .i64 e.slot] 41))
  rw [hw2] at HA HV ⊢
  clear hw2
  obtain ⟨cb,hcb⟩:=exq (w1.heap.size)
  rw [hcb] at HV ⊢
  clear hcb
  have HR2:=hide (HR1.out.more HA.out)
  have HE2:=hide (HE1.out.more HA.out)
  have HO2:=hide (o2 HO1.out HA.out)
  clear HA HR1 HE1 HO1
  have c13:=HR2.out.cell 13 (.slice (some ⟨b,0,none⟩) 2 ic) rfl
  rw [Nat.zero_add] at c13
  have d7:=(HO2.out.cell (p:=⟨b,7,none⟩) HBL.out (fun h=>h)).trans c7
  obtain ⟨e0,e1,e2,f0,f1,f2,_⟩:=HE2.out
  obtain ⟨g0,g1,g2,_⟩:=HV.out
  go_upto_region 6 with fail
  go_region
  all_goals go_wp2_with fail
  all_goals refine bodyPost_ret (results_ev3 rfl rfl ((HE2.out.all e).more (Only.drew _ _))) rfl ?_
  all_goals exact ⟨rfl,o2 (HO2.out.trans (Only.three _ _ _ _ _) (fun i hi e=>by omega)) (Only.drew _ _)⟩
theorem entriesOf_nd (w:World) (a:Int) (X:Nd) (B cp:Nat) (ao:Option Addr) (hP:Nm w X B ao) (ha:0≤a∧a < 9223372036854775808) (hv:X.lv=0) :
    Calls Tryz.prog 67 #[.agg #[.int .i64 a,.int .i64 3,.int .i64 0,.int .i64 X.rt,.string (hiB X.hi),.slice ao X.items.length cp]] w fun x w'=>EnR w w' x X.es:=by
  have HP:=hide (Pag.new w (.int .i64 a) (.int .i64 3) (.int .i64 0) (.int .i64 X.rt) (.string (hiB X.hi)) (.slice ao X.items.length cp))
  have HO:=hide (onlyA w (.cells #[.int .i64 a,.int .i64 3,.int .i64 0,.int .i64 X.rt,.string (hiB X.hi),.slice ao X.items.length cp] 24))
  have HCK:Hid (∀ W,Only (fun _=>False) w W→Calls Tryz.prog 12 #[.agg #[.int .i64 a,.int .i64 3,.int .i64 0,.int .i64 X.rt,.string (hiB X.hi),.slice ao X.items.length cp]] W fun x w'=>x=.returned (.int .i64 0)∧Only (fun _=>False) W w'):=fun W ho=>by
    have h:=check_nd W a X B cp ao (hP.more ho) ha
    rw [hv,Int.ofNat_zero] at h
    exact h
  have HEN:Hid (∀ W,Only (fun _=>False) w W→Calls Tryz.prog 36 #[.agg #[.int .i64 a,.int .i64 3,.int .i64 0,.int .i64 X.rt,.string (hiB X.hi),.slice ao X.items.length cp]] W fun x w'=>EnR W w' x X.es):=fun W ho=>entries_ok W a X.rt (hiB X.hi) X.hi B cp ao X.items X.es ((hP.more ho).lp hv)
  clear hP ha hv
  obtain ⟨R,hR⟩:=exq ((X.rt:Int))
  obtain ⟨h,hh⟩:=exq (hiB X.hi)
  obtain ⟨n,hn⟩:=exq (X.items.length)
  rw [hR,hh,hn] at HP HO HCK HEN ⊢
  clear hR hh hn
  go_enter Tryz.func67,Tryz.ntmps67
  go_upto_region 1 with fail
  obtain ⟨W0,hW0⟩:=exq (w.alloc (.cells #[.int .i64 a,.int .i64 3,.int .i64 0,.int .i64 R,.string h,.slice ao n cp] 24))
  rw [hW0] at HP HO ⊢
  clear hW0
  obtain ⟨p0,p1,p2,p3,p4,p5,_⟩:=HP.out
  go_wp2_with fail
  refine (HCK.out _ HO.out).mono ?_
  rintro x w1 ⟨rfl,ho⟩
  have HP1:=hide (HP.out.more ho)
  have HO1:=hide (o2 HO.out ho)
  clear ho p0 p1 p2 p3 p4 p5 HP HO HCK
  obtain ⟨p0,p1,p2,p3,p4,p5,_⟩:=HP1.out
  go_wp2_with fail
  refine (HEN.out _ HO1.out).mono ?_
  rintro x w2 ⟨A,C,rfl,hE,ho⟩
  have HE2:=hide (hE.base HO1.out.size)
  have HO2:=hide (o2 HO1.out ho)
  clear hE ho
  go_wp2_with fail
  go_ret2
  exact ⟨A,C,rfl,HE2.out,HO2.out⟩
def RtP (zs:List Int) (N:Int):Prop:=(zs.length:Int)=N∧(∀ j (h:j < zs.length),2≤zs[j])∧(∀ j (h:j+1 < zs.length),zs[j+1]≠zs[j])
def RtR (x:Ending) (zs:List Int) (N:Int):Prop:=∃ b:Bool,x=.returned (.bool b)∧(b=true ↔ RtP zs N)
set_option maxHeartbeats 3200000 in
theorem rbright_any (w:World) (B fc:Nat) (ao:Option Addr) (zs:List Int) (N:Int) (hZ:Ns w B ao zs) (hB:0 < zs.length→B < w.heap.size) :
    Calls Tryz.prog 20 #[.slice ao zs.length fc,.int .i64 N] w fun x w'=>RtR x zs N∧Only (fun _=>False) w w':=by
  have hlen:=hZ.len
  have HZ:=hide hZ
  have HB:=hide hB
  clear hZ hB
  by_cases hN:(zs.length:Int)=N
  · have HN:=hide hN
    have hN1:((zs.length:Int) == N)=true:=by simpa using hN
    subst hN
    clear hN1
    go_enter Tryz.func20,Tryz.ntmps20
    go_upto_region 4 with fail
    go_loopw [5] (fun i wr=>∃ (j:Nat),j≤zs.length∧i=.int .i64 (j:Int)∧Hid (∀ k (h:k < zs.length),k < j→2≤zs[k])∧Hid (∀ k (h:k+1 < zs.length),k+1 < j→zs[k+1]≠zs[k])∧Hid (Only (fun _=>False) w wr)) (fun i _=>zs.length - (intOf i).toNat)
    case atStart=>exact ⟨0,Nat.zero_le _,rfl,hide (fun _ _ h=>by omega),hide (fun _ _ h=>by omega),hide (Only.refl _ _)⟩
    case round=>
      obtain ⟨j,hj,rfl,H1,H2,HW⟩:=hrel
      by_cases hlt:j < zs.length
      · have hlk:(j:Int) < (zs.length:Int):=by omega
        have hlk2:¬ (zs.length:Int)≤(j:Int):=by omega
        obtain ⟨o,rfl,hc⟩:=HZ.out.at_ (by omega)
        have HCJ:Hid (∀ W,Only (fun _=>False) wr W→∀ k (h:k < zs.length),W.cell? ⟨B,o+k,none⟩=some (.int .i64 zs[k])):=fun W ho k h=>((o2 HW.out ho).cell (p:=⟨B,o+k,none⟩) (HB.out (by omega)) (fun h=>h)).trans (hc k h)
        obtain ⟨x,hx⟩:=exq (zs[j])
        have HXJ:=hide hx
        have HCX:Hid (∀ W,Only (fun _=>False) wr W→W.cell? ⟨B,o+j,none⟩=some (.int .i64 x)):=fun W ho=>by rw [← hx]; exact HCJ.out W ho j hlt
        clear hc hx
        by_cases hx2:x < 2
        · have HBD:Hid (¬ RtP zs zs.length):=fun q=>by
            have:=q.2.1 j hlt
            rw [HXJ.out] at this
            omega
          go_upto_region 6 with fail
          -- {r6a
          refine wp_region_noPanic ?_
          refine wp_region_held_drew (S:=fun W=>Only (fun _=>False) wr W) (by kernel_rfl) (Only.drew _ _) (fun hHeld=>?_)
          refine tkP 0 (.slice (some ⟨B,o,none⟩) zs.length fc) rfl ?_
          refine tkP 1 (.int .i64 ((j):Int)) rfl ?_
          refine tkP 2 (.pointer (some ⟨B,o+j,none⟩)) rfl ?_
          refine tkQ 3 (.int .i64 x) rfl (yieldsIf_load_cell (by rfl) 3 _ rfl _ rfl (fun W hW=>HCX.out W hW) (fun W hc=>ld_int hc)) ?_
          refine tkP 4 (.bool true) rfl ?_
          refine tkP 5 (.bool true) rfl ?_
          refine tkQ 6 undef rfl (Or.inr ⟨by rfl,rfl⟩) ?_
          refine tkQ 7 undef rfl (Or.inr ⟨by rfl,rfl⟩) ?_
          refine tkQ 8 undef rfl (Or.inr ⟨by rfl,rfl⟩) ?_
          refine tkQ 9 undef rfl (Or.inr ⟨by rfl,rfl⟩) ?_
          refine tkQ 10 undef rfl (Or.inr ⟨by rfl,rfl⟩) ?_
          refine tkQ 13 undef rfl (Or.inr ⟨by rfl,rfl⟩) ?_
          refine tkQ 14 undef rfl (Or.inr ⟨by rfl,rfl⟩) ?_
          refine tkQ 11 undef rfl (Or.inr ⟨by rfl,rfl⟩) ?_
          refine tkQ 15 undef rfl (Or.inr ⟨by rfl,rfl⟩) ?_
          refine tkQ 12 undef rfl (Or.inr ⟨by rfl,rfl⟩) ?_
          refine tkQ 16 undef rfl (Or.inr ⟨by rfl,rfl⟩) ?_
          refine tkQ 17 undef rfl (Or.inr ⟨by rfl,rfl⟩) ?_
          refine tkQ 18 undef rfl (Or.inr ⟨by rfl,rfl⟩) ?_
          refine tkQ 19 undef rfl (Or.inr ⟨by rfl,rfl⟩) ?_
          refine tkP 20 (.bool true) rfl ?_
          refine dnN ?_
          -- r6a}
          go_wp2_with fail
          go_ret
          exact ⟨⟨false,rfl,⟨(fun h=>by cases h),fun q=>absurd q HBD.out⟩⟩,o2 HW.out (Only.drew _ _)⟩
        · have HN1:Hid (∀ k (h:k < zs.length),k < j+1→2≤zs[k]):=fun k h hk=>by
            by_cases e:k=j
            · subst e
              rw [HXJ.out]
              omega
            · exact H1.out k h (by omega)
          cases j with
          | zero=>
            have HN2:Hid (∀ k (h:k+1 < zs.length),k+1 < 0+1→zs[k+1]≠zs[k]):=fun _ _ h=>by omega
            go_upto_region 6 with fail
            -- {r6b
            refine wp_region_noPanic ?_
            refine wp_region_held_drew (S:=fun W=>Only (fun _=>False) wr W) (by kernel_rfl) (Only.drew _ _) (fun hHeld=>?_)
            refine tkP 0 (.slice (some ⟨B,o,none⟩) zs.length fc) rfl ?_
            refine tkP 1 (.int .i64 (((0:Nat)):Int)) rfl ?_
            refine tkP 2 (.pointer (some ⟨B,o+0,none⟩)) rfl ?_
            refine tkQ 3 (.int .i64 x) rfl (yieldsIf_load_cell (by rfl) 3 _ rfl _ rfl (fun W hW=>HCX.out W hW) (fun W hc=>ld_int hc)) ?_
            refine tkP 4 (.bool false) rfl ?_
            refine tkP 5 (.bool false) rfl ?_
            refine tkP 6 (.int .i64 (((0:Nat)):Int)) rfl ?_
            refine tkP 7 (.bool false) rfl ?_
            refine tkP 8 (.bool false) rfl ?_
            refine tkQ 9 undef rfl (Or.inr ⟨by rfl,rfl⟩) ?_
            refine tkQ 10 undef rfl (Or.inr ⟨by rfl,rfl⟩) ?_
            refine tkQ 13 undef rfl (Or.inr ⟨by rfl,rfl⟩) ?_
            refine tkQ 14 undef rfl (Or.inr ⟨by rfl,rfl⟩) ?_
            refine tkQ 11 undef rfl (Or.inr ⟨by rfl,rfl⟩) ?_
            refine tkQ 15 undef rfl (Or.inr ⟨by rfl,rfl⟩) ?_
            refine tkQ 12 undef rfl (Or.inr ⟨by rfl,rfl⟩) ?_
            refine tkQ 16 undef rfl (Or.inr ⟨by rfl,rfl⟩) ?_
            refine tkQ 17 undef rfl (Or.inr ⟨by rfl,rfl⟩) ?_
            refine tkQ 18 undef rfl (Or.inr ⟨by rfl,rfl⟩) ?_
            refine tkP 19 (.bool false) rfl ?_
            refine tkP 20 (.bool false) rfl ?_
            refine dnN ?_
            -- r6b}
            go_wp2_with fail
            go_roundw
            case rel=>exact ⟨0+1,by omega,by go_num,HN1,HN2,hide (o2 HW.out (Only.drew _ _))⟩
            case measure=>simp [intOf]; omega
          | succ i=>
            have hjp:(0:Int) < ((i+1:Nat):Int):=by omega
            have hji:((i+1:Nat):Int) - 1=(i:Int):=by omega
            have hnn:¬ (i:Int)+1 < 0:=by omega
            have hwi:IntKind.i64.wrap (i:Int)=(i:Int):=by rw [IntKind.wrap_i64]; omega
            have hi1:(i:Int) < (zs.length:Int):=by omega
            have hi2:¬ (zs.length:Int)≤(i:Int):=by omega
            obtain ⟨y,hy⟩:=exq (zs[i]'(by omega))
            have HYJ:=hide hy
            have HCY:Hid (∀ W,Only (fun _=>False) wr W→W.cell? ⟨B,o+i,none⟩=some (.int .i64 y)):=fun W ho=>by rw [← hy]; exact HCJ.out W ho i (by omega)
            clear hy
            by_cases hxy:x=y
            · have HBD:Hid (¬ RtP zs zs.length):=fun q=>by
                have:=q.2.2 i hlt
                rw [HXJ.out,HYJ.out] at this
                exact this hxy
              have hxb:(x == y)=true:=by simpa using hxy
              clear hxy
              go_upto_region 6 with fail
              -- {r6c
              refine wp_region_noPanic ?_
              refine wp_region_held_drew (S:=fun W=>Only (fun _=>False) wr W) (by kernel_rfl) (Only.drew _ _) (fun hHeld=>?_)
              refine tkP 0 (.slice (some ⟨B,o,none⟩) zs.length fc) rfl ?_
              refine tkP 1 (.int .i64 (((i+1:Nat)):Int)) rfl ?_
              refine tkP 2 (.pointer (some ⟨B,o+(i+1),none⟩)) rfl ?_
              refine tkQ 3 (.int .i64 x) rfl (yieldsIf_load_cell (by rfl) 3 _ rfl _ rfl (fun W hW=>HCX.out W hW) (fun W hc=>ld_int hc)) ?_
              refine tkP 4 (.bool false) rfl ?_
              refine tkP 5 (.bool false) rfl ?_
              refine tkP 6 (.int .i64 (((i+1:Nat)):Int)) rfl ?_
              refine tkP 7 (.bool true) rfl ?_
              refine tkP 8 (.bool true) rfl ?_
              refine tkP 9 (.slice (some ⟨B,o,none⟩) zs.length fc) rfl ?_
              refine tkP 10 (.int .i64 (((i+1:Nat)):Int)) rfl ?_
              refine tkP 13 (.slice (some ⟨B,o,none⟩) zs.length fc) rfl ?_
              refine tkP 14 (.int .i64 (((i+1:Nat)):Int)) rfl ?_
              refine tkP 11 (.pointer (some ⟨B,o+(i+1),none⟩)) rfl ?_
              refine tkP 15 (.int .i64 (i:Int)) rfl ?_
              refine tkQ 12 (.int .i64 x) rfl (yieldsIf_load_cell (by rfl) 3 _ rfl _ rfl (fun W hW=>HCX.out W hW) (fun W hc=>ld_int hc)) ?_
              refine tkP 16 (.pointer (some ⟨B,o+i,none⟩)) rfl ?_
              refine tkQ 17 (.int .i64 y) rfl (yieldsIf_load_cell (by rfl) 3 _ rfl _ rfl (fun W hW=>HCY.out W hW) (fun W hc=>ld_int hc)) ?_
              refine tkP 18 (.bool true) rfl ?_
              refine tkP 19 (.bool true) rfl ?_
              refine tkP 20 (.bool true) rfl ?_
              refine dnN ?_
              -- r6c}
              go_wp2_with fail
              go_ret
              exact ⟨⟨false,rfl,⟨(fun h=>by cases h),fun q=>absurd q HBD.out⟩⟩,o2 HW.out (Only.drew _ _)⟩
            · have HN2:Hid (∀ k (h:k+1 < zs.length),k+1 < i+1+1→zs[k+1]≠zs[k]):=fun k h hk=>by
                by_cases e:k=i
                · subst e
                  rw [HXJ.out,HYJ.out]
                  exact hxy
                · exact H2.out k h (by omega)
              have hxb:(x == y)=false:=by simpa using hxy
              clear hxy
              go_upto_region 6 with fail
              -- {r6d
              refine wp_region_noPanic ?_
              refine wp_region_held_drew (S:=fun W=>Only (fun _=>False) wr W) (by kernel_rfl) (Only.drew _ _) (fun hHeld=>?_)
              refine tkP 0 (.slice (some ⟨B,o,none⟩) zs.length fc) rfl ?_
              refine tkP 1 (.int .i64 (((i+1:Nat)):Int)) rfl ?_
              refine tkP 2 (.pointer (some ⟨B,o+(i+1),none⟩)) rfl ?_
              refine tkQ 3 (.int .i64 x) rfl (yieldsIf_load_cell (by rfl) 3 _ rfl _ rfl (fun W hW=>HCX.out W hW) (fun W hc=>ld_int hc)) ?_
              refine tkP 4 (.bool false) rfl ?_
              refine tkP 5 (.bool false) rfl ?_
              refine tkP 6 (.int .i64 (((i+1:Nat)):Int)) rfl ?_
              refine tkP 7 (.bool true) rfl ?_
              refine tkP 8 (.bool true) rfl ?_
              refine tkP 9 (.slice (some ⟨B,o,none⟩) zs.length fc) rfl ?_
              refine tkP 10 (.int .i64 (((i+1:Nat)):Int)) rfl ?_
              refine tkP 13 (.slice (some ⟨B,o,none⟩) zs.length fc) rfl ?_
              refine tkP 14 (.int .i64 (((i+1:Nat)):Int)) rfl ?_
              refine tkP 11 (.pointer (some ⟨B,o+(i+1),none⟩)) rfl ?_
              refine tkP 15 (.int .i64 (i:Int)) rfl ?_
              refine tkQ 12 (.int .i64 x) rfl (yieldsIf_load_cell (by rfl) 3 _ rfl _ rfl (fun W hW=>HCX.out W hW) (fun W hc=>ld_int hc)) ?_
              refine tkP 16 (.pointer (some ⟨B,o+i,none⟩)) rfl ?_
              refine tkQ 17 (.int .i64 y) rfl (yieldsIf_load_cell (by rfl) 3 _ rfl _ rfl (fun W hW=>HCY.out W hW) (fun W hc=>ld_int hc)) ?_
              refine tkP 18 (.bool false) rfl ?_
              refine tkP 19 (.bool false) rfl ?_
              refine tkP 20 (.bool false) rfl ?_
              refine dnN ?_
              -- r6d}
              go_wp2_with fail
              go_roundw
              case rel=>exact ⟨i+1+1,by omega,by go_num,HN1,HN2,hide (o2 HW.out (Only.drew _ _))⟩
              case measure=>simp [intOf]; omega
      · have hlk:¬ (j:Int) < (zs.length:Int):=by omega
        have HGD:Hid (RtP zs zs.length):=⟨rfl,fun k h=>H1.out k h (by omega),fun k h=>H2.out k h (by omega)⟩
        go_wp2_with fail
        go_ret
        exact ⟨⟨true,rfl,⟨fun _=>HGD.out,fun _=>rfl⟩⟩,HW.out⟩
  · have hN1:((zs.length:Int) == N)=false:=by simpa using hN
    have HBD:Hid (¬ RtP zs N):=fun q=>hN q.1
    clear hN
    go_enter Tryz.func20,Tryz.ntmps20
    go_wp2_with fail
    go_ret
    exact ⟨⟨false,rfl,⟨(fun h=>by cases h),fun q=>absurd q HBD.out⟩⟩,Only.refl _ _⟩
end Go.Proofs.YtipkeeobmihogaaGreat
