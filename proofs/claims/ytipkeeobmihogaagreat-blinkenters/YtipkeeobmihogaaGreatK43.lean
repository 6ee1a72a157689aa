/- Parts. -/
import Derived.Test.YtipkeeobmihogaaGreatK40
set_option maxRecDepth 100000
namespace Go.Proofs.YtipkeeobmihogaaGreat
open Go.RowKit
theorem ba_ne0 {t:ByteArray} (h:¬ t=⟨#[]⟩):t.toList.isEmpty=false:=by
  rw [ByteArray.toList_eq]
  cases q:t.data.toList with
  | nil=>exact absurd (by cases t; simp at q; rw [q]) h
  | cons a l=>rfl
def below (k t:ByteArray):Bool:=decide (t=⟨#[]⟩) || decide (bl k < bl t)
theorem isBelowB_any (w:World) (k t:ByteArray):Calls Tryz.prog 68 #[.string k,.string t] w fun x w'=>x=.returned (.bool (below k t))∧w'=w:=by
  unfold below
  by_cases h:t=⟨#[]⟩
  · subst h
    go_enter Tryz.func68,Tryz.ntmps68
    go_wp2_with fail
    go_ret
    exact ⟨ret_bool (by simp),rfl⟩
  · have e:=ba_neN h
    have e3:=ba_ne0 h
    rw [decide_eq_false h,Bool.false_or,← bless_lt]
    clear h
    go_enter Tryz.func68,Tryz.ntmps68
    go_wp2_with fail
    go_ret
    exact ⟨rfl,rfl⟩
def Nd.goOn (X:Nd) (t:ByteArray):Bool:=decide (t=⟨#[]⟩) || (!decide (X.hi=noE) && decide (bl X.hi.key < bl t))
set_option maxHeartbeats 1600000 in
theorem mayGoOn_nd (w:World) (a l r:Int) (X:Nd) (t:ByteArray) (ao:Option Addr) (n cp:Nat) (lo:En) (hh:X.hi=noE∨(X.hi.ok=true∧lo.lt X.hi)) :
    Calls Tryz.prog 69 #[.agg #[.int .i64 a,.int .i64 3,.int .i64 l,.int .i64 r,.string (hiB X.hi),.slice ao n cp],.string t] w fun x w'=>x=.returned (.bool (X.goOn t))∧Only (fun _=>False) w w':=by
  have HP:=hide (Pag.new w (.int .i64 a) (.int .i64 3) (.int .i64 l) (.int .i64 r) (.string (hiB X.hi)) (.slice ao n cp))
  have HO:=hide (onlyA w (.cells #[.int .i64 a,.int .i64 3,.int .i64 l,.int .i64 r,.string (hiB X.hi),.slice ao n cp] 24))
  obtain ⟨G,hG⟩:=exq (X.goOn t)
  rw [hG]
  have HG:=hide hG
  unfold Nd.goOn at HG
  clear hG
  have HD:Hid (∀ W,Calls Tryz.prog 24 #[.string (hiB X.hi)] W fun x w'=>x=.returned (.tuple #[.agg #[.string X.hi.key,.int .i64 X.hi.page,.int .i64 X.hi.slot],.int .i64 (if X.hi=noE then 140 else 0)])∧Only (fun _=>False) W w'):=fun W=>by
    have h:=decode_any (hiB X.hi) W
    by_cases z:X.hi=noE
    · have e:hiB X.hi=⟨#[]⟩:=by rw [z]; rfl
      rw [if_pos z]
      rw [e] at h ⊢
      have q:decE (bl ⟨#[]⟩)=none:=by decide
      rw [q] at h
      rw [z]
      exact h
    · rw [if_neg z]
      have o:X.hi.ok=true:=by rcases hh with y | y; exact absurd y z; exact y.1
      rw [hiB_ok o] at h ⊢
      rw [show decE (bl X.hi.enc)=some X.hi from decE_lay o] at h
      exact h
  clear hh
  obtain ⟨h,hh⟩:=exq (hiB X.hi)
  rw [hh] at HP HO HD ⊢
  clear hh
  by_cases ht:t=⟨#[]⟩
  · have HG2:Hid (G=true):=by
      have:=HG.out
      rw [decide_eq_true ht,Bool.true_or] at this
      exact this.symm
    subst ht
    clear HG HD
    go_enter Tryz.func69,Tryz.ntmps69
    go_wp2_with fail
    go_ret
    exact ⟨ret_bool HG2.out.symm,HO.out⟩
  · have e:=ba_neN ht
    have e3:=ba_ne0 ht
    rw [decide_eq_false ht,Bool.false_or] at HG
    clear ht
    go_enter Tryz.func69,Tryz.ntmps69
    go_upto_region 1 with fail
    obtain ⟨W0,hW0⟩:=exq (w.alloc (.cells #[.int .i64 a,.int .i64 3,.int .i64 l,.int .i64 r,.string h,.slice ao n cp] 24))
    rw [hW0] at HP HO ⊢
    clear hW0
    have p4:=HP.out.c4
    by_cases z:X.hi=noE
    · rw [if_pos z] at HD
      have HG2:Hid (G=false):=by
        have:=HG.out
        rw [decide_eq_true z] at this
        unfold Hid
        simpa using this.symm
      clear HG z
      go_wp2_with fail
      refine (HD.out _).mono ?_
      rintro x w1 ⟨rfl,ho⟩
      have HO1:=hide (o2 HO.out ho)
      clear ho
      go_wp2_with fail
      go_ret
      exact ⟨ret_bool HG2.out.symm,o2 HO1.out (onlyA _ _)⟩
    · rw [if_neg z] at HD
      rw [decide_eq_false z] at HG
      clear z
      go_wp2_with fail
      refine (HD.out _).mono ?_
      rintro x w1 ⟨rfl,ho⟩
      have HO1:=hide (o2 HO.out ho)
      clear ho
      go_wp2_with fail
      go_ret
      exact ⟨ret_bool (by have:=HG.out; rw [bless_lt]; simpa using this),o2 HO1.out (onlyA _ _)⟩
def hitB (f t:ByteArray) (e:En):Bool:=!decide (bl e.key < bl f) && below e.key t
def HtR (w w':World) (x:Ending) (X:Nd) (f t:ByteArray):Prop:=∃ A C,x=.returned (.tuple #[.slice A (X.es.filter (hitB f t)).length C,.bool (decide (X.rt≠0) && X.goOn t),.int .i64 0])∧Ets w' w.heap.size (.slice A (X.es.filter (hitB f t)).length C) (X.es.filter (hitB f t))∧Only (fun _=>False) w w'
theorem filter_snoc {es:List En} {p:En→Bool} {j:Nat} (h:j < es.length):(es.take (j+1)).filter p=(es.take j).filter p++(if p es[j]=true then [es[j]] else []):=by
  rw [List.take_succ_eq_append_getElem h,List.filter_append]
  congr 1
  by_cases z:p es[j]=true
  · rw [if_pos z]; simp [z]
  · rw [if_neg z]; simp [z]
set_option maxHeartbeats 3200000 in
theorem hits_nd (w:World) (a:Int) (X:Nd) (f t:ByteArray) (B cp:Nat) (ao:Option Addr) (hP:Nm w X B ao) (ha:0≤a∧a < 9223372036854775808) (hv:X.lv=0) :
    Calls Tryz.prog 31 #[.agg #[.int .i64 a,.int .i64 3,.int .i64 0,.int .i64 X.rt,.string (hiB X.hi),.slice ao X.items.length cp],.string f,.string t] w fun x w'=>HtR w w' x X f t:=by
  have HP:=hide (Pag.new w (.int .i64 a) (.int .i64 3) (.int .i64 0) (.int .i64 X.rt) (.string (hiB X.hi)) (.slice ao X.items.length cp))
  have HO:=hide (onlyA w (.cells #[.int .i64 a,.int .i64 3,.int .i64 0,.int .i64 X.rt,.string (hiB X.hi),.slice ao X.items.length cp] 24))
  have HEO:Hid (∀ W,Only (fun _=>False) w W→Calls Tryz.prog 67 #[.agg #[.int .i64 a,.int .i64 3,.int .i64 0,.int .i64 X.rt,.string (hiB X.hi),.slice ao X.items.length cp]] W fun x w'=>EnR W w' x X.es):=fun W ho=>entriesOf_nd W a X B cp ao (hP.more ho) ha hv
  have HMG:Hid (∀ W,Calls Tryz.prog 69 #[.agg #[.int .i64 a,.int .i64 3,.int .i64 0,.int .i64 X.rt,.string (hiB X.hi),.slice ao X.items.length cp],.string t] W fun x w'=>x=.returned (.bool (X.goOn t))∧Only (fun _=>False) W w'):=fun W=>by
    obtain ⟨lo,ho⟩:=hP.ok
    exact mayGoOn_nd W a 0 X.rt X t ao X.items.length cp lo ho.hiok
  have HBL:=hide (fun (k:ByteArray) (W:World)=>isBelowB_any W k t)
  have hes82:X.es.length≤82:=by rw [Nd.es_len]; exact hP.few
  have HRT:Hid (decide (X.rt≠0)=!((X.rt:Int) == 0)):=by
    unfold Hid
    by_cases z:X.rt=0
    · rw [z]; rfl
    · have:((X.rt:Int) == 0)=false:=by simpa using (by omega:¬ (X.rt:Int)=0)
      rw [this]; simpa using z
  clear hP ha hv
  unfold HtR
  obtain ⟨es,hes⟩:=exq (X.es)
  obtain ⟨R,hR⟩:=exq ((X.rt:Int))
  obtain ⟨h,hh⟩:=exq (hiB X.hi)
  obtain ⟨n,hn⟩:=exq (X.items.length)
  obtain ⟨M,hM⟩:=exq (X.goOn t)
  rw [hR,hh,hn] at HP HO HEO HMG ⊢
  rw [HRT.out,hR,hM,hes]
  rw [hes] at HEO hes82
  rw [hM] at HMG
  clear hes hR hh hn hM HRT
  obtain ⟨Z,hZ⟩:=exq ((!(R == 0) && M))
  rw [hZ]
  have HZ:=hide hZ
  clear hZ
  go_enter Tryz.func31,Tryz.ntmps31
  go_upto_region 1 with fail
  obtain ⟨W0,hW0⟩:=exq (w.alloc (.cells #[.int .i64 a,.int .i64 3,.int .i64 0,.int .i64 R,.string h,.slice ao n cp] 24))
  rw [hW0] at HP HO ⊢
  clear hW0
  obtain ⟨p0,p1,p2,p3,p4,p5,_⟩:=HP.out
  go_wp2_with fail
  refine (HEO.out _ HO.out).mono ?_
  rintro x w1 ⟨A,C,rfl,hE,ho⟩
  have HP1:=hide (HP.out.more ho)
  have HO1:=hide (o2 HO.out ho)
  obtain ⟨Be,hels,_⟩:=hE.elsOf
  have HE1:=hide hels
  clear ho hE hels p0 p1 p2 p3 p4 p5 HP HO HEO
  go_upto_region 6 with fail
  go_loopw [11,24] (fun v i wr=>∃ (j:Nat),j≤es.length∧i=.int .i64 (j:Int)∧Hid (Ets wr w1.heap.size v ((es.take j).filter (hitB f t)))∧Hid (Only (fun _=>False) w1 wr)) (fun _ i _=>es.length - (intOf i).toNat)
  case atStart=>exact ⟨0,Nat.zero_le _,rfl,hide (Ets.nil _ _),hide (Only.refl _ _)⟩
  case round=>
    obtain ⟨j,hj,rfl,HX,HW⟩:=hrel
    have HP2:=hide (HP1.out.more HW.out)
    by_cases hlt:j < es.length
    · obtain ⟨o,rfl,heb⟩:=(HE1.out.kept HW.out (fun _ h=>h)).of j hlt
      have HFS:=hide (filter_snoc (p:=hitB f t) hlt)
      have hfl:((es.take j).filter (hitB f t)).length≤82:=by
        have h1:=List.length_filter_le (hitB f t) (es.take j)
        rw [List.length_take] at h1
        omega
      obtain ⟨e,he⟩:=exq (es[j])
      rw [he] at heb HFS
      clear he
      obtain ⟨e0,e1,e2,_⟩:=heb
      have hlk:(j:Int) < (es.length:Int):=by omega
      have hlk2:¬ (es.length:Int)≤(j:Int):=by omega
      go_upto_region 8 with fail
      have HA:=hide (onlyA wr (.cells #[.string e.key,.int .i64 e.page,.int .i64 e.slot] 41))
      have HV:=hide (Ev.new wr e)
      obtain ⟨w2,hw2⟩:=exq (wr.alloc (.cells #[.string e.key,.int .i64 e.page,.int .i64 e.slot] 41))
      rw [hw2] at HA HV ⊢
      clear hw2
      obtain ⟨cb,hcb⟩:=exq (wr.heap.size)
      rw [hcb] at HV ⊢
      clear hcb e0 e1 e2
      have HX2:=hide (HX.out.more HA.out)
      have HW2:=hide (o2 HW.out HA.out)
      clear HA
      obtain ⟨d0,d1,d2,_⟩:=HV.out
      have hbl:=bless_lt (a:=e.key) (b:=f)
      have HB1:=hide (HBL.out e.key)
      have HHB:Hid (hitB f t e=(!decide (bl e.key < bl f) && below e.key t)):=rfl
      obtain ⟨G,hG⟩:=exq (decide (bl e.key < bl f))
      obtain ⟨T,hT⟩:=exq (below e.key t)
      rw [hG] at hbl HHB
      rw [hT] at HB1 HHB
      clear hG hT
      cases G with
      | true=>
        rw [show hitB f t e=false by rw [HHB.out]; rfl,if_neg (by decide),List.append_nil] at HFS
        rw [← HFS.out] at HX2
        clear HHB HFS HB1 HX
        go_wp2_with fail
        go_roundw
        case rel=>exact ⟨j+1,by omega,by go_num,HX2,HW2⟩
        case measure=>simp [intOf]; omega
      | false=>
        cases T with
        | false=>
          rw [show hitB f t e=false by rw [HHB.out]; rfl,if_neg (by decide),List.append_nil] at HFS
          rw [← HFS.out] at HX2
          clear HHB HFS HX
          go_wp2_with fail
          refine (HB1.out _).mono ?_
          rintro x w3 ⟨rfl,h4⟩
          obtain rfl:=h4.symm
          go_wp2_with fail
          go_roundw
          case rel=>exact ⟨j+1,by omega,by go_num,HX2,HW2⟩
          case measure=>simp [intOf]; omega
        | true=>
          rw [show hitB f t e=true by rw [HHB.out]; rfl,if_pos rfl] at HFS
          clear HHB HX
          go_wp2_with fail
          refine (HB1.out _).mono ?_
          rintro x w3 ⟨rfl,h4⟩
          obtain rfl:=h4.symm
          obtain ⟨A3,C3,w4,hr4,he4,ho4,_⟩:=ets_append (w2.alloc (.cells #[.string e.key,.int .i64 e.page,.int .i64 e.slot] 41)) w1.heap.size _ _ (HX2.out.more (onlyA _ _)) w2.heap.size 0 1 1 [e] rfl (fun q hq=>by
            have:q=0:=by simpa using hq
            subst this
            have h:=Ev.new w2 e
            exact ⟨h.c0,h.c1,h.c2,h.lt⟩) (by omega) (Nat.le_trans HW2.out.size (onlyA _ _).size)
          rw [← HFS.out] at he4
          have HX4:=hide he4
          have HW4:Hid (Only (fun _=>False) w1 w4):=(o2 HW2.out (onlyA _ _)).trans ho4 (fun i hi q=>by have:=(World.ownsRow.lt HX2.out i q).1; omega)
          have HR4:=hide hr4
          clear hr4 he4 ho4
          go_wp2_with (at_builtin; go_must (refine Lib.wpList_append_run _ rfl _ _ _ _ rfl _ _ rfl rfl _ _ HR4.out ?_))
          go_roundw
          case rel=>exact ⟨j+1,by omega,by go_num,HX4,HW4⟩
          case measure=>simp [intOf]; omega
    · have hlk:¬ (j:Int) < (es.length:Int):=by omega
      have ej:j=es.length:=by omega
      subst ej
      rw [List.take_length] at HX
      obtain ⟨p0,p1,p2,p3,p4,p5,_⟩:=HP2.out
      obtain ⟨A9,C9,hA9⟩:=HX.out.form
      subst hA9
      have HX9:=hide (HX.out.base HO1.out.size)
      have HO9:=hide (o2 HO1.out HW.out)
      clear HX HBL HE1
      by_cases hR0:R=0
      · subst hR0
        have HZ2:Hid (Z=false):=HZ.out.symm
        clear HMG HZ
        go_wp2_with fail
        go_ret3
        obtain rfl:=HZ2.out
        exact ⟨A9,C9,rfl,HX9.out,HO9.out⟩
      · have hR1:(R == 0)=false:=by simpa using hR0
        have HZ2:Hid (Z=M):=by
          have:=HZ.out
          rw [hR1] at this
          exact this.symm
        clear HZ
        go_wp2_with fail
        refine (HMG.out _).mono ?_
        rintro x w3 ⟨rfl,ho⟩
        have HX10:=hide (HX9.out.more ho)
        have HO10:=hide (o2 HO9.out ho)
        clear ho
        go_wp2_with fail
        go_ret3
        obtain rfl:=HZ2.out
        refine ⟨A9,C9,?_,HX10.out,HO10.out⟩
        simp only [Array.getD,List.size_toArray,List.length_cons,List.length_nil]
        simp
        exact fun _=>hR0
end Go.Proofs.YtipkeeobmihogaaGreat
