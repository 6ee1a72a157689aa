/- Parts. -/
import Derived.Test.YtipkeeobmihogaaGreatK29
set_option maxRecDepth 100000
namespace Go.Proofs.YtipkeeobmihogaaGreat
open Go.RowKit
def Xs (W:World) (x:Nat) (D:ByteArray) (l:List UInt8) (y:Int):Prop:=∃ p:Nat,XR W x D p y∧(y=0→p≤D.size∧(bl D).drop p=l)
theorem Xs.kept {S:Nat→Prop} {w w':World} {x:Nat} {D:ByteArray} {l:List UInt8} {y:Int} (h:Xs w x D l y) (ho:Only S w w') (hS:¬ S x):Xs w' x D l y:=by
  obtain ⟨p,h1,h2⟩:=h
  exact ⟨p,h1.kept ho hS,h2⟩
theorem Xs.more {w w':World} {x:Nat} {D:ByteArray} {l:List UInt8} {y:Int} (h:Xs w x D l y) (ho:Only (fun _=>False) w w'):Xs w' x D l y:=h.kept ho (fun h=>h)
theorem Xs.new (w:World) (D:ByteArray):Xs (w.alloc (.cells #[.string D,.int .i64 0,.int .i64 0] 110)) w.heap.size D (bl D) 0:=⟨0,XR.new w D,fun _=>⟨Nat.zero_le _,rfl⟩⟩
theorem xtext_stN (w:World) (x:Nat) (D:ByteArray) (z:Int) (h:Xs w x D (bl D) 0) (hs:D.size≤maxLen - 100) :
    Calls Tryz.prog 61 #[.pointer (some ⟨x,0,none⟩),.int .i64 z] w fun e w'=>e=.returned (.string (str (rdT z (bl D)).1))∧Xs w' x D (rdT z (bl D)).2.1 (rdT z (bl D)).2.2∧Only (fun k=>k=x) w w':=by
  obtain ⟨p,h1,h2⟩:=h
  obtain ⟨hp,hl⟩:=h2 rfl
  refine (xtext_any w x D p z h1 hp hs).mono ?_
  rintro e w' ⟨he,hx⟩
  rw [show D.data.toList.drop p=bl D from hl] at he hx
  obtain ⟨p',a1,a2,a3⟩:=hx
  exact ⟨he,⟨p',a1,a2⟩,a3⟩
theorem xnum_stN (w:World) (x:Nat) (D:ByteArray) (l:List UInt8) (y z:Int) (h:Xs w x D l y) (hs:D.size≤maxLen - 100) :
    Calls Tryz.prog 62 #[.pointer (some ⟨x,0,none⟩),.int .i64 z] w fun e w'=>e=.returned (.int .i64 (rnS (l,y) z).1)∧Xs w' x D (rnS (l,y) z).2.1 (rnS (l,y) z).2.2∧Only (fun k=>k=x) w w':=by
  obtain ⟨p,h1,h2⟩:=h
  unfold rnS
  by_cases hy:y=0
  · subst hy
    obtain ⟨hp,hl⟩:=h2 rfl
    rw [if_pos rfl]
    refine (xnum_any w x D p z h1 hp hs).mono ?_
    rintro e w' ⟨he,hx⟩
    rw [show D.data.toList.drop p=l from hl] at he hx
    obtain ⟨p',a1,a2,a3⟩:=hx
    exact ⟨he,⟨p',a1,a2⟩,a3⟩
  · rw [if_neg hy]
    refine (xnum_err w x D p y z h1 (by simpa using hy)).mono ?_
    rintro e w' ⟨he,rfl⟩
    exact ⟨he,⟨p,h1,h2⟩,Only.refl _ _⟩
theorem xend_stN (w:World) (x:Nat) (D:ByteArray) (l:List UInt8) (y:Int) (h:Xs w x D l y) :
    Calls Tryz.prog 64 #[.pointer (some ⟨x,0,none⟩)] w fun e w'=>e=.returned (.int .i64 (endE l y))∧Only (fun _=>False) w w':=by
  obtain ⟨p,h1,h2⟩:=h
  unfold endE
  by_cases hy:y=0
  · subst hy
    obtain ⟨hp,hl⟩:=h2 rfl
    rw [if_pos rfl]
    refine (xend_ok w x D p h1 hp).mono ?_
    rintro e w' ⟨he,rfl⟩
    have e1:l.length=D.size - p:=by rw [← hl,List.length_drop,bl_len]
    rw [e1]
    exact ⟨he,Only.drew _ _⟩
  · rw [if_neg hy]
    refine (xend_err w x D p y h1 (by simpa using hy)).mono ?_
    rintro e w' ⟨he,rfl⟩
    exact ⟨he,Only.drew _ _⟩
structure Dx (w W:World) (D:ByteArray) (l:List UInt8) (y:Int) (e:En):Prop where
  res:Ev W w.heap.size noE
  rd:Xs W (w.heap.size+1) D l y
  ent:Ev W (w.heap.size+1+1) e
  only:Only (fun _=>False) w W
theorem Dx.new (w:World) (D:ByteArray):Dx w (((w.alloc (.cells #[.string ⟨#[]⟩,.int .i64 0,.int .i64 0] 41)).alloc (.cells #[.string D,.int .i64 0,.int .i64 0] 110)).alloc (.cells #[.string ⟨#[]⟩,.int .i64 0,.int .i64 0] 41)) D (bl D) 0 noE:=by
  have e1:=Xs.new (w.alloc (.cells #[.string ⟨#[]⟩,.int .i64 0,.int .i64 0] 41)) D
  rw [World.size_alloc] at e1
  have e2:=Ev.zero ((w.alloc (.cells #[.string ⟨#[]⟩,.int .i64 0,.int .i64 0] 41)).alloc (.cells #[.string D,.int .i64 0,.int .i64 0] 110))
  rw [World.size_alloc,World.size_alloc] at e2
  exact ⟨(Ev.zero w).more (o2 (onlyA _ _) (onlyA _ _)),e1.more (onlyA _ _),e2,o2 (o2 (onlyA _ _) (onlyA _ _)) (onlyA _ _)⟩
theorem Dx.set {w W:World} {D:ByteArray} {l:List UInt8} {y:Int} {e e':En} (h:Dx w W D l y e) (i:Nat) (v:Value) (ht:Ev (W.setCell ⟨w.heap.size+1+1,i,none⟩ v) (w.heap.size+1+1) e'):Dx w (W.setCell ⟨w.heap.size+1+1,i,none⟩ v) D l y e':=by
  have ho:Only (fun k=>k=w.heap.size+1+1) W (W.setCell ⟨w.heap.size+1+1,i,none⟩ v):=Only.setCell W _ v rfl
  exact ⟨h.res.kept ho (by omega),h.rd.kept ho (by omega),ht,h.only.trans ho (fun j hj e=>by omega)⟩
theorem Dx.take {w W W':World} {D:ByteArray} {l l':List UInt8} {y y':Int} {e:En} (h:Dx w W D l y e) (hr:Xs W' (w.heap.size+1) D l' y') (ho:Only (fun k=>k=w.heap.size+1) W W'):Dx w W' D l' y' e :=
  ⟨h.res.kept ho (by omega),hr,h.ent.kept ho (by omega),h.only.trans ho (fun j hj e=>by omega)⟩
theorem Dx.more {w W W':World} {D:ByteArray} {l:List UInt8} {y:Int} {e:En} (h:Dx w W D l y e) (ho:Only (fun _=>False) W W'):Dx w W' D l y e:=⟨h.res.more ho,h.rd.more ho,h.ent.more ho,o2 h.only ho⟩
theorem takeE_parts (l:List UInt8):takeE l=(⟨str (rdT 24 l).1,(rnS (rdT 24 l).2 65535).1,(rnS (rnS (rdT 24 l).2 65535).2 65535).1⟩,(rnS (rnS (rdT 24 l).2 65535).2 65535).2):=rfl
set_option maxHeartbeats 3200000 in
theorem fdecode_any (s:ByteArray) (w:World) (hs:s.size≤maxLen - 100) :
    Calls Tryz.prog 25 #[.string s] w fun e w'=>e=.returned (outE (decE (bl s)))∧Only (fun _=>False) w w':=by
  have H0:=hide (Dx.new w s)
  have HSZ:=hide hs
  clear hs
  obtain ⟨P,hP⟩:=exq (rdT 24 (bl s))
  obtain ⟨A,hA⟩:=exq (rnS P.2 65535)
  obtain ⟨C,hC⟩:=exq (rnS A.2 65535)
  obtain ⟨K,hK⟩:=exq (str P.1)
  have HTE:Hid (takeE (bl s)=(⟨K,A.1,C.1⟩,C.2)):=by
    unfold Hid
    rw [takeE_parts,hP,hA,hC,hK]
  have HD:Hid (decE (bl s)=if endE C.2.1 C.2.2=0∧En.ok ⟨K,A.1,C.1⟩=true then some ⟨K,A.1,C.1⟩ else none):=by
    unfold Hid decE
    rw [HTE.out]
  have HSE:Hid (endE C.2.1 C.2.2=0→(En.enc ⟨K,A.1,C.1⟩)=s):=by
    intro h0
    obtain ⟨x0,ln⟩:=endE_zero h0
    have c:=takeE_canon (l:=bl s) (by rw [HTE.out]; exact x0)
    rw [HTE.out] at c
    simp only [] at c
    rw [ln,List.append_nil] at c
    unfold En.enc
    rw [← c,str_bl]
  have HENC:Hid (∀ W,Calls Tryz.prog 63 #[.agg #[.string K,.int .i64 A.1,.int .i64 C.1]] W fun x w'=>x=.returned (outC (En.ok ⟨K,A.1,C.1⟩) (En.enc ⟨K,A.1,C.1⟩))∧Only (fun _=>False) W w'):=fun W=>fencode_any ⟨K,A.1,C.1⟩ W
  have HP:=hide hP
  have HA:=hide hA
  have HC:=hide hC
  have HK:=hide hK
  clear hP hA hC hK HTE
  go_enter Tryz.func25,Tryz.ntmps25
  go_upto_region 3 with fail
  obtain ⟨W0,hW0⟩:=exq (((w.alloc (.cells #[.string ⟨#[]⟩,.int .i64 0,.int .i64 0] 41)).alloc (.cells #[.string s,.int .i64 0,.int .i64 0] 110)).alloc (.cells #[.string ⟨#[]⟩,.int .i64 0,.int .i64 0] 41))
  rw [hW0] at H0 ⊢
  clear hW0
  go_wp2_with fail
  refine (xtext_stN W0 _ s 24 H0.out.rd HSZ.out).mono ?_
  rintro e W1 ⟨rfl,hr1,ho1⟩
  rw [HP.out] at hr1 ⊢
  rw [HK.out]
  have H1:=hide (H0.out.take hr1 ho1)
  clear hr1 ho1 H0
  have c0:=H1.out.ent.c0
  have f0:=H1.out.ent.f0
  go_wp2_with fail
  have H2:=hide (H1.out.set 0 _ (H1.out.ent.s0 K))
  clear c0 f0 H1
  obtain ⟨W2,hW2⟩:=exq (W1.setCell ⟨w.heap.size+1+1,0,none⟩ (.string K))
  rw [hW2] at H2 ⊢
  clear hW2
  refine (xnum_stN W2 _ s P.2.1 P.2.2 65535 H2.out.rd HSZ.out).mono ?_
  rintro e W3 ⟨rfl,hr3,ho3⟩
  rw [HA.out] at hr3 ⊢
  have H3:=hide (H2.out.take hr3 ho3)
  clear hr3 ho3 H2
  have c1:=H3.out.ent.c1
  have f1:=H3.out.ent.f1
  go_wp2_with fail
  have H4:=hide (H3.out.set 1 _ (H3.out.ent.s1 A.1))
  clear c1 f1 H3
  obtain ⟨W4,hW4⟩:=exq (W3.setCell ⟨w.heap.size+1+1,1,none⟩ (.int .i64 A.1))
  rw [hW4] at H4 ⊢
  clear hW4
  refine (xnum_stN W4 _ s A.2.1 A.2.2 65535 H4.out.rd HSZ.out).mono ?_
  rintro e W5 ⟨rfl,hr5,ho5⟩
  rw [HC.out] at hr5 ⊢
  have H5:=hide (H4.out.take hr5 ho5)
  clear hr5 ho5 H4
  have c2:=H5.out.ent.c2
  have f2:=H5.out.ent.f2
  go_upto_region 6 with fail
  have H6:=hide (H5.out.set 2 _ (H5.out.ent.s2 C.1))
  clear c2 f2 H5
  obtain ⟨W6,hW6⟩:=exq (W5.setCell ⟨w.heap.size+1+1,2,none⟩ (.int .i64 C.1))
  rw [hW6] at H6 ⊢
  clear hW6
  simp only [] at H6
  obtain ⟨a1,ha1⟩:=exq (A.1)
  obtain ⟨c1,hc1⟩:=exq (C.1)
  rw [ha1,hc1] at HD HSE HENC H6
  rw [ha1,hc1]
  clear ha1 hc1
  obtain ⟨lc,hlc⟩:=exq (C.2.1)
  obtain ⟨yc,hyc⟩:=exq (C.2.2)
  rw [hlc,hyc] at HD HSE H6
  clear hlc hyc
  obtain ⟨X,hX⟩:=exq (endE lc yc)
  obtain ⟨O,hO⟩:=exq (En.ok ⟨K,a1,c1⟩)
  obtain ⟨EE,hEE⟩:=exq (En.enc ⟨K,a1,c1⟩)
  have HEX:Hid (∀ W,Dx w W s lc yc ⟨K,a1,c1⟩→Calls Tryz.prog 64 #[.pointer (some ⟨w.heap.size+1,0,none⟩)] W fun e w'=>e=.returned (.int .i64 X)∧Only (fun _=>False) W w'):=fun W h=>by rw [← hX]; exact xend_stN W _ s lc yc h.rd
  rw [hX,hO] at HD
  rw [hX,hEE] at HSE
  rw [hO,hEE] at HENC
  clear hX hO hEE HP HA HC HK
  have d0:=H6.out.ent.c0
  have d1:=H6.out.ent.c1
  have d2:=H6.out.ent.c2
  simp only [] at d0 d1 d2
  unfold outC at HENC
  cases O with
  | false=>
    have HDX:Hid (decE (bl s)=none):=by unfold Hid; rw [HD.out,if_neg (by simp)]
    simp only [Bool.false_eq_true,if_false] at HENC
    clear HD HSE
    go_wp2_with fail
    refine (HENC.out _).mono ?_
    rintro x W7 ⟨rfl,ho⟩
    have H7:=hide (H6.out.more ho)
    clear ho d0 d1 d2 H6 HENC
    go_wp2_with fail
    refine (HEX.out _ H7.out).mono ?_
    rintro x W8 ⟨rfl,ho⟩
    have H8:=hide (H7.out.more ho)
    clear ho H7 HEX
    have r0:=H8.out.res.c0
    have r1:=H8.out.res.c1
    have r2:=H8.out.res.c2
    have g0:=H8.out.res.f0
    have g1:=H8.out.res.f1
    have g2:=H8.out.res.f2
    by_cases hx:X=0
    · subst hx
      go_wp2_with fail
      refine bodyPost_ret (results_ev rfl rfl (H8.out.res.all noE)) rfl ?_
      exact ⟨by rw [HDX.out]; rfl,H8.out.only.trans (Only.three _ _ _ _ _) (fun i hi e=>by omega)⟩
    · have hx':(X != 0)=true:=by simpa using hx
      clear hx
      go_wp2_with fail
      refine bodyPost_ret (results_ev rfl rfl (H8.out.res.all noE)) rfl ?_
      exact ⟨by rw [HDX.out]; rfl,H8.out.only.trans (Only.three _ _ _ _ _) (fun i hi e=>by omega)⟩
  | true=>
    simp only [if_true] at HENC
    by_cases hx:X=0
    · have HDX:Hid (decE (bl s)=some ⟨K,a1,c1⟩):=by unfold Hid; rw [HD.out,if_pos ⟨hx,rfl⟩]
      have hse:=HSE.out hx
      subst hx
      subst hse
      clear HD HSE
      go_wp2_with fail
      refine (HENC.out _).mono ?_
      rintro x W7 ⟨rfl,ho⟩
      have H7:=hide (H6.out.more ho)
      clear ho d0 d1 d2 H6 HENC
      go_wp2_with fail
      refine (HEX.out _ H7.out).mono ?_
      rintro x W8 ⟨rfl,ho⟩
      have H8:=hide (H7.out.more ho)
      clear ho H7 HEX
      have r0:=H8.out.res.c0
      have r1:=H8.out.res.c1
      have r2:=H8.out.res.c2
      have g0:=H8.out.res.f0
      have g1:=H8.out.res.f1
      have g2:=H8.out.res.f2
      have d0:=H8.out.ent.c0
      have d1:=H8.out.ent.c1
      have d2:=H8.out.ent.c2
      simp only [] at d0 d1 d2
      go_wp2_with fail
      refine bodyPost_ret (results_ev rfl rfl (H8.out.res.all ⟨K,a1,c1⟩)) rfl ?_
      exact ⟨by rw [HDX.out]; rfl,H8.out.only.trans (Only.three _ _ _ _ _) (fun i hi e=>by omega)⟩
    · have HDX:Hid (decE (bl s)=none):=by unfold Hid; rw [HD.out,if_neg (fun h=>hx h.1)]
      have hx':(X != 0)=true:=by simpa using hx
      clear hx HD HSE
      go_wp2_with fail
      refine (HENC.out _).mono ?_
      rintro x W7 ⟨rfl,ho⟩
      have H7:=hide (H6.out.more ho)
      clear ho d0 d1 d2 H6 HENC
      go_wp2_with fail
      refine (HEX.out _ H7.out).mono ?_
      rintro x W8 ⟨rfl,ho⟩
      have H8:=hide (H7.out.more ho)
      clear ho H7 HEX
      have r0:=H8.out.res.c0
      have r1:=H8.out.res.c1
      have r2:=H8.out.res.c2
      have g0:=H8.out.res.f0
      have g1:=H8.out.res.f1
      have g2:=H8.out.res.f2
      go_wp2_with fail
      refine bodyPost_ret (results_ev rfl rfl (H8.out.res.all noE)) rfl ?_
      exact ⟨by rw [HDX.out]; rfl,H8.out.only.trans (Only.three _ _ _ _ _) (fun i hi e=>by omega)⟩
set_option maxHeartbeats 3200000 in
theorem funsep_any (s:ByteArray) (w:World) (hs:s.size≤maxLen - 100) :
    Calls Tryz.prog 45 #[.string s] w fun e w'=>e=.returned (outS (decS (bl s)))∧Only (fun _=>False) w w':=by
  have H0:=hide (Dx.new w s)
  have HSZ:=hide hs
  clear hs
  obtain ⟨P,hP⟩:=exq (rdT 24 (bl s))
  obtain ⟨A,hA⟩:=exq (rnS P.2 65535)
  obtain ⟨C,hC⟩:=exq (rnS A.2 65535)
  obtain ⟨G,hG⟩:=exq (rnS C.2 65535)
  obtain ⟨K,hK⟩:=exq (str P.1)
  have HTE:Hid (takeE (bl s)=(⟨K,A.1,C.1⟩,C.2)):=by
    unfold Hid
    rw [takeE_parts,hP,hA,hC,hK]
  have HTS:Hid (takeS (bl s)=((⟨K,A.1,C.1⟩,G.1),G.2)):=by
    unfold Hid takeS
    rw [HTE.out]
    simp only []
    rw [hG]
  have HD:Hid (decS (bl s)=if endE G.2.1 G.2.2=0∧En.sp ⟨K,A.1,C.1⟩=true∧okC G.1=true then some (⟨K,A.1,C.1⟩,G.1) else none):=by
    unfold Hid decS
    rw [HTS.out]
  have HSE:Hid (endE G.2.1 G.2.2=0→(En.encS ⟨K,A.1,C.1⟩ G.1)=s):=by
    intro h0
    obtain ⟨x0,ln⟩:=endE_zero h0
    have c:=takeS_canon (l:=bl s) (by rw [HTS.out]; exact x0)
    rw [HTS.out] at c
    simp only [] at c
    rw [ln,List.append_nil] at c
    unfold En.encS
    rw [← c,str_bl]
  have HENC:Hid (∀ W,Calls Tryz.prog 54 #[.agg #[.string K,.int .i64 A.1,.int .i64 C.1],.int .i64 G.1] W fun x w'=>x=.returned (outC (En.sp ⟨K,A.1,C.1⟩ && okC G.1) (En.encS ⟨K,A.1,C.1⟩ G.1))∧Only (fun _=>False) W w'):=fun W=>fsep_any ⟨K,A.1,C.1⟩ G.1 W
  have HGG:=hide hG
  have HP:=hide hP
  have HA:=hide hA
  have HC:=hide hC
  have HK:=hide hK
  clear hP hA hC hK hG HTE HTS
  go_enter Tryz.func45,Tryz.ntmps45
  go_upto_region 3 with fail
  obtain ⟨W0,hW0⟩:=exq (((w.alloc (.cells #[.string ⟨#[]⟩,.int .i64 0,.int .i64 0] 41)).alloc (.cells #[.string s,.int .i64 0,.int .i64 0] 110)).alloc (.cells #[.string ⟨#[]⟩,.int .i64 0,.int .i64 0] 41))
  rw [hW0] at H0 ⊢
  clear hW0
  go_wp2_with fail
  refine (xtext_stN W0 _ s 24 H0.out.rd HSZ.out).mono ?_
  rintro e W1 ⟨rfl,hr1,ho1⟩
  rw [HP.out] at hr1 ⊢
  rw [HK.out]
  have H1:=hide (H0.out.take hr1 ho1)
  clear hr1 ho1 H0
  have c0:=H1.out.ent.c0
  have f0:=H1.out.ent.f0
  go_wp2_with fail
  have H2:=hide (H1.out.set 0 _ (H1.out.ent.s0 K))
  clear c0 f0 H1
  obtain ⟨W2,hW2⟩:=exq (W1.setCell ⟨w.heap.size+1+1,0,none⟩ (.string K))
  rw [hW2] at H2 ⊢
  clear hW2
  refine (xnum_stN W2 _ s P.2.1 P.2.2 65535 H2.out.rd HSZ.out).mono ?_
  rintro e W3 ⟨rfl,hr3,ho3⟩
  rw [HA.out] at hr3 ⊢
  have H3:=hide (H2.out.take hr3 ho3)
  clear hr3 ho3 H2
  have c1:=H3.out.ent.c1
  have f1:=H3.out.ent.f1
  go_wp2_with fail
  have H4:=hide (H3.out.set 1 _ (H3.out.ent.s1 A.1))
  clear c1 f1 H3
  obtain ⟨W4,hW4⟩:=exq (W3.setCell ⟨w.heap.size+1+1,1,none⟩ (.int .i64 A.1))
  rw [hW4] at H4 ⊢
  clear hW4
  refine (xnum_stN W4 _ s A.2.1 A.2.2 65535 H4.out.rd HSZ.out).mono ?_
  rintro e W5 ⟨rfl,hr5,ho5⟩
  rw [HC.out] at hr5 ⊢
  have H5:=hide (H4.out.take hr5 ho5)
  clear hr5 ho5 H4
  have c2:=H5.out.ent.c2
  have f2:=H5.out.ent.f2
  go_upto_region 6 with fail
  have H6:=hide (H5.out.set 2 _ (H5.out.ent.s2 C.1))
  clear c2 f2 H5
  obtain ⟨W6,hW6⟩:=exq (W5.setCell ⟨w.heap.size+1+1,2,none⟩ (.int .i64 C.1))
  rw [hW6] at H6 ⊢
  clear hW6
  simp only [] at H6
  go_wp2_with fail
  refine (xnum_stN W6 _ s C.2.1 C.2.2 65535 H6.out.rd HSZ.out).mono ?_
  rintro e W7 ⟨rfl,hr7,ho7⟩
  rw [HGG.out] at hr7 ⊢
  have H6b:=hide (H6.out.take hr7 ho7)
  clear hr7 ho7 H6
  obtain ⟨a1,ha1⟩:=exq (A.1)
  obtain ⟨c1,hc1⟩:=exq (C.1)
  obtain ⟨kd,hkd⟩:=exq (G.1)
  rw [ha1,hc1] at HD HSE HENC H6b
  rw [hkd] at HD HSE HENC
  rw [ha1,hc1,hkd]
  clear ha1 hc1 hkd
  obtain ⟨lc,hlc⟩:=exq (G.2.1)
  obtain ⟨yc,hyc⟩:=exq (G.2.2)
  rw [hlc,hyc] at HD HSE H6b
  clear hlc hyc
  have H6:=H6b
  clear H6b
  obtain ⟨X,hX⟩:=exq (endE lc yc)
  obtain ⟨O,hO⟩:=exq ((En.sp ⟨K,a1,c1⟩ && okC kd))
  obtain ⟨EE,hEE⟩:=exq (En.encS ⟨K,a1,c1⟩ kd)
  have HEX:Hid (∀ W,Dx w W s lc yc ⟨K,a1,c1⟩→Calls Tryz.prog 64 #[.pointer (some ⟨w.heap.size+1,0,none⟩)] W fun e w'=>e=.returned (.int .i64 X)∧Only (fun _=>False) W w'):=fun W h=>by rw [← hX]; exact xend_stN W _ s lc yc h.rd
  have HD2:Hid (decS (bl s)=if X=0∧O=true then some (⟨K,a1,c1⟩,kd) else none):=by
    unfold Hid
    rw [HD.out,hX]
    by_cases h1:X=0∧O=true
    · have h2:=h1.2
      rw [← hO,Bool.and_eq_true] at h2
      rw [if_pos h1,if_pos ⟨h1.1,h2.1,h2.2⟩]
    · rw [if_neg h1,if_neg (fun h=>h1 ⟨h.1,by rw [← hO,h.2.1,h.2.2]; rfl⟩)]
  clear HD
  have HD:=HD2
  clear HD2
  rw [hX,hEE] at HSE
  rw [hO,hEE] at HENC
  clear hX hO hEE HP HA HC HK HGG
  have d0:=H6.out.ent.c0
  have d1:=H6.out.ent.c1
  have d2:=H6.out.ent.c2
  simp only [] at d0 d1 d2
  unfold outC at HENC
  cases O with
  | false=>
    have HDX:Hid (decS (bl s)=none):=by unfold Hid; rw [HD.out,if_neg (by simp)]
    simp only [Bool.false_eq_true,if_false] at HENC
    clear HD HSE
    go_wp2_with fail
    refine (HENC.out _).mono ?_
    rintro x W7 ⟨rfl,ho⟩
    have H7:=hide (H6.out.more ho)
    clear ho d0 d1 d2 H6 HENC
    go_wp2_with fail
    refine (HEX.out _ H7.out).mono ?_
    rintro x W8 ⟨rfl,ho⟩
    have H8:=hide (H7.out.more ho)
    clear ho H7 HEX
    have r0:=H8.out.res.c0
    have r1:=H8.out.res.c1
    have r2:=H8.out.res.c2
    have g0:=H8.out.res.f0
    have g1:=H8.out.res.f1
    have g2:=H8.out.res.f2
    by_cases hx:X=0
    · subst hx
      go_wp2_with fail
      refine bodyPost_ret (results_ev3 rfl rfl (H8.out.res.all noE)) rfl ?_
      exact ⟨by rw [HDX.out]; rfl,H8.out.only.trans (Only.three _ _ _ _ _) (fun i hi e=>by omega)⟩
    · have hx':(X != 0)=true:=by simpa using hx
      clear hx
      go_wp2_with fail
      refine bodyPost_ret (results_ev3 rfl rfl (H8.out.res.all noE)) rfl ?_
      exact ⟨by rw [HDX.out]; rfl,H8.out.only.trans (Only.three _ _ _ _ _) (fun i hi e=>by omega)⟩
  | true=>
    simp only [if_true] at HENC
    by_cases hx:X=0
    · have HDX:Hid (decS (bl s)=some (⟨K,a1,c1⟩,kd)):=by unfold Hid; rw [HD.out,if_pos ⟨hx,rfl⟩]
      have hse:=HSE.out hx
      subst hx
      subst hse
      clear HD HSE
      go_wp2_with fail
      refine (HENC.out _).mono ?_
      rintro x W7 ⟨rfl,ho⟩
      have H7:=hide (H6.out.more ho)
      clear ho d0 d1 d2 H6 HENC
      go_wp2_with fail
      refine (HEX.out _ H7.out).mono ?_
      rintro x W8 ⟨rfl,ho⟩
      have H8:=hide (H7.out.more ho)
      clear ho H7 HEX
      have r0:=H8.out.res.c0
      have r1:=H8.out.res.c1
      have r2:=H8.out.res.c2
      have g0:=H8.out.res.f0
      have g1:=H8.out.res.f1
      have g2:=H8.out.res.f2
      have d0:=H8.out.ent.c0
      have d1:=H8.out.ent.c1
      have d2:=H8.out.ent.c2
      simp only [] at d0 d1 d2
      go_wp2_with fail
      refine bodyPost_ret (results_ev3 rfl rfl (H8.out.res.all ⟨K,a1,c1⟩)) rfl ?_
      exact ⟨by rw [HDX.out]; rfl,H8.out.only.trans (Only.three _ _ _ _ _) (fun i hi e=>by omega)⟩
    · have HDX:Hid (decS (bl s)=none):=by unfold Hid; rw [HD.out,if_neg (fun h=>hx h.1)]
      have hx':(X != 0)=true:=by simpa using hx
      clear hx HD HSE
      go_wp2_with fail
      refine (HENC.out _).mono ?_
      rintro x W7 ⟨rfl,ho⟩
      have H7:=hide (H6.out.more ho)
      clear ho d0 d1 d2 H6 HENC
      go_wp2_with fail
      refine (HEX.out _ H7.out).mono ?_
      rintro x W8 ⟨rfl,ho⟩
      have H8:=hide (H7.out.more ho)
      clear ho H7 HEX
      have r0:=H8.out.res.c0
      have r1:=H8.out.res.c1
      have r2:=H8.out.res.c2
      have g0:=H8.out.res.f0
      have g1:=H8.out.res.f1
      have g2:=H8.out.res.f2
      go_wp2_with fail
      refine bodyPost_ret (results_ev3 rfl rfl (H8.out.res.all noE)) rfl ?_
      exact ⟨by rw [HDX.out]; rfl,H8.out.only.trans (Only.three _ _ _ _ _) (fun i hi e=>by omega)⟩
end Go.Proofs.YtipkeeobmihogaaGreat
