/- Parts. -/
import Derived.Test.YtajjakljheafjaaGreatK41
import Derived.BigQuiet
set_option maxRecDepth 100000
namespace Go.Proofs.YtajjakljheafjaaGreat
open Go.RowKit
def SmlR (w w':World) (e:Ending):Prop:=∃ BL aL cL BH aH cH q,e=.returned (.tuple #[.agg #[.int .i64 0,.int .i64 3,.int .i64 0,.int .i64 0,.string ⟨#[]⟩,.slice aL 1 cL],.agg #[.int .i64 0,.int .i64 2,.int .i64 0,.int .i64 0,.string ⟨#[]⟩,.slice aH 1 cH],
    .agg #[.int .i64 16,.int .i64 5,.slice q.aA 0 q.cA,.int .i64 5,.slice q.aR 1 q.cR,.int .i64 0,.int .i64 1,.int .i64 0,.int .i64 0,.string ⟨#[]⟩,.slice q.aP 2 q.cP],.bool true]) ∧
  Strs w' BL aL [eA.enc]∧Strs w' BH aH [aS]∧Fit aH 1 cH∧Sn w' aV q∧Only (fun _=>False) w w'
theorem Strs.oneF (w:World) (s:ByteArray) (hs:s.size≤140737488355328):Strs (w.alloc (.cells #[.string s] 9)) w.heap.size (some ⟨w.heap.size,0,none⟩) [s]:=Strs.one w s hs
theorem results_sml {fn:Func} {t0 t1 t2 t3:Tmp} (h:fn.results=#[.cell t0 37,.cell t1 37,.cell t2 42,.tmp t3]) {tmps:Array Value} {w:World} {b0 b1 b2:Nat} {v0 v1 v2 v3 v4 v5 u0 u1 u2 u3 u4 u5 x0 x1 x2 x3 x4 x5 x6 x7 x8 x9 x10:Value}
    (p0:tmps.getD t0 undef=.pointer (some ⟨b0,0,none⟩)) (h0:Cb w b0 [v0,v1,v2,v3,v4,v5]) (p1:tmps.getD t1 undef=.pointer (some ⟨b1,0,none⟩)) (h1:Cb w b1 [u0,u1,u2,u3,u4,u5]) (p2:tmps.getD t2 undef=.pointer (some ⟨b2,0,none⟩)) (h2:Cb w b2 [x0,x1,x2,x3,x4,x5,x6,x7,x8,x9,x10]) :
    (results fn tmps).run Tryz.prog w=.ok (.tuple #[.agg #[v0,v1,v2,v3,v4,v5],.agg #[u0,u1,u2,u3,u4,u5],.agg #[x0,x1,x2,x3,x4,x5,x6,x7,x8,x9,x10],tmps.getD t3 undef]) w:=by
  have e0:(asAddr (.pointer (some ⟨b0,0,none⟩))).run Tryz.prog w=.ok ⟨b0,0,none⟩ w:=rfl
  have e1:(asAddr (.pointer (some ⟨b1,0,none⟩))).run Tryz.prog w=.ok ⟨b1,0,none⟩ w:=rfl
  have e2:(asAddr (.pointer (some ⟨b2,0,none⟩))).run Tryz.prog w=.ok ⟨b2,0,none⟩ w:=rfl
  have l0:=load_page h0.pag
  have l1:=load_page h1.pag
  have l2:(loadVar 42 ⟨b2,0,none⟩).run Tryz.prog w=.ok (.agg #[x0,x1,x2,x3,x4,x5,x6,x7,x8,x9,x10]) w:=run_loadVar_mid (P:=Tryz.prog) w b2 0 42 _ _ h2.rg.range Tryz.underlying42 rfl Tryz.sizeViewF
  have q0:tmps[t0]?.getD undef=.pointer (some ⟨b0,0,none⟩):=by simpa using p0
  have q1:tmps[t1]?.getD undef=.pointer (some ⟨b1,0,none⟩):=by simpa using p1
  have q2:tmps[t2]?.getD undef=.pointer (some ⟨b2,0,none⟩):=by simpa using p2
  simp only [results,h]
  simp [Sem.run_bind,Result.andThen,q0,q1,q2,e0,e1,e2,l0,l1,l2]
structure Sm3 (w W:World):Prop where
  c0:Cb W w.heap.size [.int .i64 0,.int .i64 0,.int .i64 0,.int .i64 0,.string ⟨#[]⟩,.slice none 0 0]
  c1:Cb W (w.heap.size+1) [.int .i64 0,.int .i64 0,.int .i64 0,.int .i64 0,.string ⟨#[]⟩,.slice none 0 0]
  c2:Cb W (w.heap.size+1+1) [.int .i64 0,.int .i64 0,.slice none 0 0,.int .i64 0,.slice none 0 0,.int .i64 0,.int .i64 0,.int .i64 0,.int .i64 0,.string ⟨#[]⟩,.slice none 0 0]
  only:Only (fun _=>False) w W
theorem Sm3.new (w:World):Sm3 w (((w.alloc (.cells #[.int .i64 0,.int .i64 0,.int .i64 0,.int .i64 0,.string ⟨#[]⟩,.slice none 0 0] 37)).alloc (.cells #[.int .i64 0,.int .i64 0,.int .i64 0,.int .i64 0,.string ⟨#[]⟩,.slice none 0 0] 37)).alloc (.cells #[.int .i64 0,.int .i64 0,.slice none 0 0,.int .i64 0,.slice none 0 0,.int .i64 0,.int .i64 0,.int .i64 0,.int .i64 0,.string ⟨#[]⟩,.slice none 0 0] 42)):=by
  have h1:=Cb.new w [.int .i64 0,.int .i64 0,.int .i64 0,.int .i64 0,.string ⟨#[]⟩,.slice none 0 0] 37
  have h2:=Cb.new (w.alloc (.cells #[.int .i64 0,.int .i64 0,.int .i64 0,.int .i64 0,.string ⟨#[]⟩,.slice none 0 0] 37)) [.int .i64 0,.int .i64 0,.int .i64 0,.int .i64 0,.string ⟨#[]⟩,.slice none 0 0] 37
  have h3:=Cb.new ((w.alloc (.cells #[.int .i64 0,.int .i64 0,.int .i64 0,.int .i64 0,.string ⟨#[]⟩,.slice none 0 0] 37)).alloc (.cells #[.int .i64 0,.int .i64 0,.int .i64 0,.int .i64 0,.string ⟨#[]⟩,.slice none 0 0] 37)) [.int .i64 0,.int .i64 0,.slice none 0 0,.int .i64 0,.slice none 0 0,.int .i64 0,.int .i64 0,.int .i64 0,.int .i64 0,.string ⟨#[]⟩,.slice none 0 0] 42
  rw [World.size_alloc] at h2
  rw [World.size_alloc,World.size_alloc] at h3
  exact ⟨(h1.more (onlyA _ _)).more (onlyA _ _),h2.more (onlyA _ _),h3,o2 (o2 (onlyA _ _) (onlyA _ _)) (onlyA _ _)⟩
theorem Sm3.more {w W W':World} (h:Sm3 w W) (ho:Only (fun _=>False) W W'):Sm3 w W':=⟨h.c0.more ho,h.c1.more ho,h.c2.more ho,o2 h.only ho⟩
set_option maxHeartbeats 3200000 in
theorem small_any (w:World):Calls Tryz.prog 24 #[] w fun e w'=>SmlR w w' e:=by
  have HBL:Hid (∀ W,Calls Tryz.prog 19 #[.int .i64 16,.int .i64 1] W fun e w'=>Res W w' e ⟨0,1,0,0,⟨#[]⟩,[⟨#[1]⟩,⟨#[0,0,0,0]⟩]⟩ 0):=fun W=>by
    have:=cblank_ok W 16 1 (id16 (by omega) (by omega))
    rw [aP0] at this
    exact this
  have HST:Hid (∀ W B ao cp,Strs W B ao [⟨#[1]⟩,⟨#[0,0,0,0]⟩]→Calls Tryz.prog 20 #[.int .i64 16,.agg #[.int .i64 0,.int .i64 1,.int .i64 0,.int .i64 0,.string ⟨#[]⟩,.slice ao 2 cp],.int .i64 1,.int .u8 2] W fun e w'=>Res W w' e aP 0):=fun W B ao cp hS=>cset_ok W 16 0 1 cp B ao ⟨#[1]⟩ ⟨#[0,0,0,0]⟩ 2 hS aok0 (id16 (by omega) (by omega)) (by omega)
  have HEN:Hid (∀ W,Calls Tryz.prog 45 #[.agg #[.int .i64 1,.int .i64 0,.bool false,.string ⟨#[97]⟩,.string ⟨#[120]⟩]] W fun e w'=>e=.returned (.tuple #[.string aS,.int .i64 0])∧Only (fun _=>False) W w'):=fun W=>uencode_any aT W (by decide) (by decide)
  have HIN:Hid (∀ W,Calls Tryz.prog 46 #[.agg #[.int .i64 0,.int .i64 3,.int .i64 0,.int .i64 0,.string ⟨#[]⟩,.slice none 0 0],.agg #[.string ⟨#[97]⟩,.int .i64 2,.int .i64 0]] W fun x w'=>∃ B ao cp,x=.returned (.tuple #[.agg #[.int .i64 0,.int .i64 3,.int .i64 0,.int .i64 0,.string ⟨#[]⟩,.slice ao 1 cp],.int .i64 0])∧Strs w' B ao [eA.enc]∧Fit ao 1 cp∧Only (fun _=>False) W w'∧W.heap.size≤B):=fun W=>insert_A W
  have H3:=hide (Sm3.new w)
  obtain ⟨S,hS⟩:=exq (aS)
  have HSE:=hide hS
  have HSL:Hid (S.size≤140737488355328):=by unfold Hid; rw [← hS,aS_size]; decide
  rw [hS] at HEN
  clear hS
  obtain ⟨EE,hE⟩:=exq (eA.enc)
  have HEE:=hide hE
  rw [hE] at HIN
  clear hE
  go_enter Tryz.func24,Tryz.ntmps24
  go_upto_region 1 with fail
  obtain ⟨W0,hW0⟩:=exq (((w.alloc (.cells #[.int .i64 0,.int .i64 0,.int .i64 0,.int .i64 0,.string ⟨#[]⟩,.slice none 0 0] 37)).alloc (.cells #[.int .i64 0,.int .i64 0,.int .i64 0,.int .i64 0,.string ⟨#[]⟩,.slice none 0 0] 37)).alloc (.cells #[.int .i64 0,.int .i64 0,.slice none 0 0,.int .i64 0,.slice none 0 0,.int .i64 0,.int .i64 0,.int .i64 0,.int .i64 0,.string ⟨#[]⟩,.slice none 0 0] 42))
  rw [hW0] at H3 ⊢
  clear hW0
  go_wp2_with fail
  refine (leaf_any _).mono ?_
  rintro x w1 ⟨rfl,ho⟩
  have H31:=hide (H3.out.more ho)
  clear ho H3
  go_wp2_with fail
  refine (HIN.out _).mono ?_
  rintro x w2 ⟨BL,aL,cL,rfl,hL,hFL,ho,hBLb⟩
  have HBLb:Hid (w.heap.size+1+1 < BL):=Nat.lt_of_lt_of_le H31.out.c2.lt hBLb
  have HL:=hide hL
  have H32:=hide (H31.out.more ho)
  clear ho hL hFL H31
  go_upto_region 2 with fail
  obtain ⟨w3,hw3⟩:=exq (w2.alloc (.cells #[.int .i64 0,.int .i64 3,.int .i64 0,.int .i64 0,.string ⟨#[]⟩,.slice aL 1 cL] 37))
  have HX:Hid (Only (fun _=>False) w2 w3):=by rw [← hw3]; exact onlyA w2 _
  have H4:Hid (Cb w3 w2.heap.size [.int .i64 0,.int .i64 3,.int .i64 0,.int .i64 0,.string ⟨#[]⟩,.slice aL 1 cL]):=by rw [← hw3]; exact Cb.new w2 [.int .i64 0,.int .i64 3,.int .i64 0,.int .i64 0,.string ⟨#[]⟩,.slice aL 1 cL] 37
  rw [hw3]
  clear hw3
  have HB4a:Hid (w.heap.size+1+1 < w2.heap.size):=H32.out.c2.lt
  have HL3:=hide (HL.out.more HX.out)
  have H33:=hide (H32.out.more HX.out)
  clear HX HL H32
  obtain ⟨b4,hb4⟩:=exq (w2.heap.size)
  rw [hb4] at H4 HB4a ⊢
  have HB4:Hid (w.heap.size+1+1 < b4):=HB4a.out
  clear hb4
  go_wp2_with fail
  refine (HEN.out _).mono ?_
  rintro x w4 ⟨rfl,ho⟩
  have HL4:=hide (HL3.out.more ho)
  have H34:=hide (H33.out.more ho)
  have H44:=hide (H4.out.more ho)
  clear ho HL3 H33 H4
  go_wp2_with fail
  refine (HBL.out _).mono ?_
  rintro x w5 ⟨B5,a5,c5,rfl,hS5,hF5,ho,_⟩
  have HL5:=hide (HL4.out.more ho)
  have H35:=hide (H34.out.more ho)
  have H45:=hide (H44.out.more ho)
  have HS5:=hide hS5
  clear ho HL4 H34 H44 hS5 hF5
  simp only []
  go_upto_region 4 with fail
  obtain ⟨w6,hw6⟩:=exq (w5.alloc (.cells #[.int .i64 0,.int .i64 1,.int .i64 0,.int .i64 0,.string ⟨#[]⟩,.slice a5 2 c5] 37))
  have HX:Hid (Only (fun _=>False) w5 w6):=by rw [← hw6]; exact onlyA w5 _
  have H8:Hid (Cb w6 w5.heap.size [.int .i64 0,.int .i64 1,.int .i64 0,.int .i64 0,.string ⟨#[]⟩,.slice a5 2 c5]):=by rw [← hw6]; exact Cb.new w5 [.int .i64 0,.int .i64 1,.int .i64 0,.int .i64 0,.string ⟨#[]⟩,.slice a5 2 c5] 37
  rw [hw6]
  clear hw6
  have HL6:=hide (HL5.out.more HX.out)
  have H36:=hide (H35.out.more HX.out)
  have H46:=hide (H45.out.more HX.out)
  have HS6:=hide (HS5.out.more HX.out)
  have HB8:Hid (b4 < w5.heap.size):=H45.out.lt
  have HNL:Hid (¬ BL=w5.heap.size):=fun e=>by have:=HL5.out.lt (by simp); omega
  have HB9:Hid (w.heap.size+1+1 < w5.heap.size):=H35.out.c2.lt
  clear HX HL5 H35 H45 HS5
  obtain ⟨b8,hb8⟩:=exq (w5.heap.size)
  rw [hb8] at H8 HB8 HB9 HNL ⊢
  clear hb8
  have H8L:Hid (b8 < w6.heap.size):=H8.out.lt
  have d0:=H8.out.c 0 _ rfl
  have d1:=H8.out.c 1 _ rfl
  have d2:=H8.out.c 2 _ rfl
  have d3:=H8.out.c 3 _ rfl
  have d4:=H8.out.c 4 _ rfl
  have d5:=H8.out.c 5 _ rfl
  go_wp2_with fail
  refine (HST.out _ B5 a5 c5 HS6.out).mono ?_
  rintro x w7 ⟨B7,a7,c7,rfl,hS7,hF7,ho,hB7⟩
  have hB7:Hid (w6.heap.size≤B7):=hB7 (by simp [aP])
  have HL7:=hide (HL6.out.more ho)
  have H37:=hide (H36.out.more ho)
  have H47:=hide (H46.out.more ho)
  have H87:=hide (H8.out.more ho)
  have HS7:=hide hS7
  have HF7:=hide hF7
  clear ho HL6 H36 H46 H8 HS6 hS7 hF7 d0 d1 d2 d3 d4 d5
  unfold aP
  simp only [List.length_cons,List.length_nil,Nat.zero_add,Nat.reduceAdd]
  go_upto_region 5 with (refine wpList_put_cb rfl 37 (.tmp 8) (.tmp 30) rfl b8 (by rfl) _ [.int .i64 0,.int .i64 1,.int .i64 0,.int .i64 0,.string ⟨#[]⟩,.slice a7 2 c7] (by rfl) (by exact Tryz.sizePageB) (by rfl) (by rfl) H87.out ?_; intro W9 HW9; go_frame)
  have HB7:Hid (¬ b8=B7):=fun e=>by have:=hB7.out; have:=H8L.out; omega
  have HL9:=hide (HL7.out.kept HW9.out.2 (fun _=>HNL.out))
  have H49:=hide (H47.out.kept HW9.out.2 (by have:=HB8.out; omega))
  have HS9:=hide (HS7.out.kept HW9.out.2 (fun _ q=>HB7.out q.symm))
  have H39a:=hide (H37.out.c0.kept HW9.out.2 (by have:=HB9.out; omega))
  have H39b:=hide (H37.out.c1.kept HW9.out.2 (by have:=HB9.out; omega))
  have H39c:=hide (H37.out.c2.kept HW9.out.2 (by have:=HB9.out; omega))
  have HO9:=hide (H37.out.only.trans HW9.out.2 (fun i hi e=>by have:=HB9.out; omega))
  have d0:=HW9.out.1.c 0 _ rfl
  have d1:=HW9.out.1.c 1 _ rfl
  have d2:=HW9.out.1.c 2 _ rfl
  have d3:=HW9.out.1.c 3 _ rfl
  have d4:=HW9.out.1.c 4 _ rfl
  have d5:=HW9.out.1.c 5 _ rfl
  have hb8l:b8 < W9.heap.size:=HW9.out.1.lt
  go_upto_region 6 with fail
  obtain ⟨b10,hb10⟩:=exq (W9.heap.size)
  obtain ⟨w10,hw10⟩:=exq (W9.alloc (.cells #[.int .i64 5] 3))
  have HX10:Hid (Only (fun _=>False) W9 w10):=by rw [← hw10]; exact onlyA _ _
  have HN5a:Hid (Nz w10 b10 (some ⟨b10,0,none⟩) [5]):=by rw [← hw10,← hb10]; exact Nz.one W9 5 ⟨by decide,by decide⟩
  rw [hb10,hw10]
  obtain ⟨b11,hb11⟩:=exq (w10.heap.size)
  obtain ⟨w11,hw11⟩:=exq (w10.alloc (.cells #[.int .i64 16,.int .i64 5,.slice none 0 0,.int .i64 5,.slice (some ⟨b10,0,none⟩) 1 1,.int .i64 0,.int .i64 1,.int .i64 0,.int .i64 0,.string ⟨#[]⟩,.slice a7 2 c7] 42))
  have HX11:Hid (Only (fun _=>False) w10 w11):=by rw [← hw11]; exact onlyA _ _
  have HV11:Hid (Cb w11 b11 [.int .i64 16,.int .i64 5,.slice none 0 0,.int .i64 5,.slice (some ⟨b10,0,none⟩) 1 1,.int .i64 0,.int .i64 1,.int .i64 0,.int .i64 0,.string ⟨#[]⟩,.slice a7 2 c7]):=by rw [← hw11,← hb11]; exact Cb.new w10 [.int .i64 16,.int .i64 5,.slice none 0 0,.int .i64 5,.slice (some ⟨b10,0,none⟩) 1 1,.int .i64 0,.int .i64 1,.int .i64 0,.int .i64 0,.string ⟨#[]⟩,.slice a7 2 c7] 42
  rw [show b10+1=b11 from by rw [← hb11,← hw10,← hb10]; simp]
  rw [hw11]
  have HX:=hide (o2 HX10.out HX11.out)
  have HL11s:=hide (HL9.out.more HX.out)
  have HS11:=hide (HS9.out.more HX.out)
  have HN5:=hide (HN5a.out.more HX11.out)
  have HL4:=hide (H49.out.more HX.out)
  have HC00:=hide ((H39a.out.more HX.out).more (Only.drew (fun _=>False) w11))
  have HC01:=hide ((H39b.out.more HX.out).more (Only.drew (fun _=>False) w11))
  have HC02:=hide ((H39c.out.more HX.out).more (Only.drew (fun _=>False) w11))
  have HW11:=hide (o2 HO9.out HX.out)
  have h4:w.heap.size+1+1 < b4:=HB4.out
  have h11:w.heap.size+1+1 < b11:=by have:=HB9.out; have:=HX10.out.size; omega
  have h10:w.heap.size+1+1 < b10:=by have:=HB9.out; omega
  have HL11:Hid (w.heap.size+1+1 < w11.heap.size):=by have:=HV11.out.lt; unfold Hid; omega
  obtain ⟨K3,hK3⟩:∃ K:Nat→Prop,K=fun k=>w.heap.size≤k∧k≤w.heap.size+2:=⟨_,rfl⟩
  have HK3:=hide hK3
  have HO0:Hid (Only K3 w11 w11.drew):=Only.drew _ _
  have HK4:¬ K3 b4:=fun q=>by rw [hK3] at q; have:w.heap.size≤b4∧b4≤w.heap.size+2:=q; omega
  have HK11:¬ K3 b11:=fun q=>by rw [hK3] at q; have:w.heap.size≤b11∧b11≤w.heap.size+2:=q; omega
  have HNB:Hid (¬ K3 BL∧¬ K3 b10∧¬ K3 B7):=by
    have h1:=HBLb.out
    have h2:=hB7.out
    have h3:=H8L.out
    refine ⟨fun q=>?_,fun q=>?_,fun q=>?_⟩ <;> (rw [hK3] at q)
    · have:w.heap.size≤BL∧BL≤w.heap.size+2:=q; omega
    · have:w.heap.size≤b10∧b10≤w.heap.size+2:=q; omega
    · have:w.heap.size≤B7∧B7≤w.heap.size+2:=q; have:=HB9.out; omega
  clear hb10 hw10 hb11 hw11 hK3 d0 d1 d2 d3 d4 d5 hb8l HX HX10 HX11 HL9 HS9 HN5a H49 H39a H39b H39c HO9 HW9
  refine wp_region_noPanic ?_
  refine wp_region_held_drew (S:=fun W=>Only K3 w11 W) (by kernel_rfl) (HO0.out) (fun hHeld=>?_)
  refine tkQ 0 (.agg #[.int .i64 0,.int .i64 3,.int .i64 0,.int .i64 0,.string ⟨#[]⟩,.slice aL 1 cL]) rfl (yieldsIf_load_page (by rfl) _ rfl _ rfl (fun W hW=>(HL4.out.kept hW (by omega)).pag)) ?_
  refine tkP 1 (.string S) rfl ?_
  refine tkQ 4 (.agg #[.int .i64 16,.int .i64 5,.slice none 0 0,.int .i64 5,.slice (some ⟨b10,0,none⟩) 1 1,.int .i64 0,.int .i64 1,.int .i64 0,.int .i64 0,.string ⟨#[]⟩,.slice a7 2 c7]) rfl (yieldsIf_load_view (V:=⟨16,5,none,0,0,5,some ⟨b10,0,none⟩,1,1,0,1,0,0,⟨#[]⟩,a7,2,c7⟩) (by rfl) _ rfl rfl (fun W hW=>HV11.out.kept hW (by omega))) ?_
  refine tkP 5 (.int .i64 0) rfl ?_
  refine tkP 6 (.bool true) rfl ?_
  refine tkP 7 (.bool true) rfl ?_
  refine tkP 8 (.int .i64 0) rfl ?_
  refine tkP 9 (.bool true) rfl ?_
  refine tkP 10 (.bool true) rfl ?_
  refine tkP 11 (.bool true) rfl ?_
  refine tkP 12 (.int .i64 0) rfl ?_
  refine tkP 13 (.bool true) rfl ?_
  refine tkP 14 (.bool true) rfl ?_
  refine tkP 15 (.bool true) rfl ?_
  refine tkP 16 (.int .i64 0) rfl ?_
  refine tkP 17 (.bool true) rfl ?_
  refine tkP 18 (.bool true) rfl ?_
  refine wpAnyH_ready (rs:=[2,19]) (by kernel_rfl) (by simp) ?_
  refine arC rfl (fun K hK=>?_) (arC rfl (fun K hK=>?_) (AllReadyH.nil))
  · go_simp
    have HN1:Hid (Only (fun _=>False) w11.drew ((w11.alloc (.cells #[.string S] 9)).drew)):=onlyA w11.drew _
    have HSS:Hid (Strs ((w11.alloc (.cells #[.string S] 9)).drew) w11.drew.heap.size (some ⟨w11.drew.heap.size,0,none⟩) [S]):=Strs.oneF w11.drew S HSL.out
    obtain ⟨X1,hX1⟩:=exq ((w11.alloc (.cells #[.string S] 9)).drew)
    rw [hX1] at HN1 HSS ⊢
    clear hX1
    have HC10:=hide (HC00.out.more HN1.out)
    have HC11:=hide (HC01.out.more HN1.out)
    have HC12:=hide (HC02.out.more HN1.out)
    have HO1:Hid (Only K3 w11 X1):=HO0.out.trans (HN1.out.mono (fun _ _ e=>e.elim)) (fun _ _ e=>e)
    refine hK.out _ _ (HO1.out) (fun hHeld=>?_)
    clear hK K
    try simp only [Act.put,lsA,lsB,lsC]
    refine tkP 3 (.agg #[.int .i64 0,.int .i64 2,.int .i64 0,.int .i64 0,.string ⟨#[]⟩,.slice (some ⟨w11.heap.size,0,none⟩) 1 1]) rfl ?_
    refine rd1 19 rfl (fun K hK=>?_)
    rw [if_pos (by rfl)]
    refine wp_store_mid 37 (.tmp 0) (.tmp 36) rfl w.heap.size 0 #[.int .i64 0,.int .i64 3,.int .i64 0,.int .i64 0,.string ⟨#[]⟩,.slice aL 1 cL] rfl rfl (by exact HC10.out.rg.there) Tryz.sizePageB (by simp [Value.oneCell']) ?_
    have HC20:=hide (Cb.putF HC10.out [.int .i64 0,.int .i64 3,.int .i64 0,.int .i64 0,.string ⟨#[]⟩,.slice aL 1 cL] rfl)
    have HN2:=hide (only_setCells w.heap.size [.int .i64 0,.int .i64 3,.int .i64 0,.int .i64 0,.string ⟨#[]⟩,.slice aL 1 cL] 0 X1)
    obtain ⟨X2,hX2⟩:=exq (X1.setCells w.heap.size 0 [.int .i64 0,.int .i64 3,.int .i64 0,.int .i64 0,.string ⟨#[]⟩,.slice aL 1 cL])
    rw [hX2] at HN2 HC20
    rw [show X1.setCells w.heap.size 0 (#[.int .i64 0,.int .i64 3,.int .i64 0,.int .i64 0,.string ⟨#[]⟩,.slice aL 1 cL]:Array Value).toList=X2 from hX2]
    clear hX2
    have HC21:=hide (HC11.out.kept HN2.out (by omega))
    have HC22:=hide (HC12.out.kept HN2.out (by omega))
    have HSS:=hide (HSS.out.kept HN2.out (fun _=>by have:=HL11.out; have:w11.drew.heap.size=w11.heap.size:=rfl; omega))
    have HO2:Hid (Only K3 w11 X2):=HO1.out.trans HN2.out (fun i hi e=>by rw [HK3.out]; show w.heap.size≤i∧i≤w.heap.size+2; omega)
    refine hK.out _ _ (HO2.out) (fun hHeld=>?_)
    clear hK K
    simp only [Act.put]
    refine rd1 20 rfl (fun K hK=>?_)
    rw [if_pos (by rfl)]
    refine wp_store_mid 37 (.tmp 1) (.tmp 39) rfl (w.heap.size+1) 0 #[.int .i64 0,.int .i64 2,.int .i64 0,.int .i64 0,.string ⟨#[]⟩,.slice (some ⟨w11.heap.size,0,none⟩) 1 1] rfl rfl (by exact HC21.out.rg.there) Tryz.sizePageB (by simp [Value.oneCell']) ?_
    have HC31:=hide (Cb.putF HC21.out [.int .i64 0,.int .i64 2,.int .i64 0,.int .i64 0,.string ⟨#[]⟩,.slice (some ⟨w11.heap.size,0,none⟩) 1 1] rfl)
    have HN3:=hide (only_setCells (w.heap.size+1) [.int .i64 0,.int .i64 2,.int .i64 0,.int .i64 0,.string ⟨#[]⟩,.slice (some ⟨w11.heap.size,0,none⟩) 1 1] 0 X2)
    obtain ⟨X3,hX3⟩:=exq (X2.setCells (w.heap.size+1) 0 [.int .i64 0,.int .i64 2,.int .i64 0,.int .i64 0,.string ⟨#[]⟩,.slice (some ⟨w11.heap.size,0,none⟩) 1 1])
    rw [hX3] at HN3 HC31
    rw [show X2.setCells (w.heap.size+1) 0 (#[.int .i64 0,.int .i64 2,.int .i64 0,.int .i64 0,.string ⟨#[]⟩,.slice (some ⟨w11.heap.size,0,none⟩) 1 1]:Array Value).toList=X3 from hX3]
    clear hX3
    have HC30:=hide (HC20.out.kept HN3.out (by omega))
    have HC32:=hide (HC22.out.kept HN3.out (by omega))
    have HSS:=hide (HSS.out.kept HN3.out (fun _=>by have:=HL11.out; have:w11.drew.heap.size=w11.heap.size:=rfl; omega))
    have HO3:Hid (Only K3 w11 X3):=HO2.out.trans HN3.out (fun i hi e=>by rw [HK3.out]; show w.heap.size≤i∧i≤w.heap.size+2; omega)
    refine hK.out _ _ (HO3.out) (fun hHeld=>?_)
    clear hK K
    simp only [Act.put]
    refine rd1 21 rfl (fun K hK=>?_)
    rw [if_pos (by rfl)]
    refine wp_store_mid 42 (.tmp 2) (.tmp 40) rfl (w.heap.size+1+1) 0 #[.int .i64 16,.int .i64 5,.slice none 0 0,.int .i64 5,.slice (some ⟨b10,0,none⟩) 1 1,.int .i64 0,.int .i64 1,.int .i64 0,.int .i64 0,.string ⟨#[]⟩,.slice a7 2 c7] rfl rfl (by exact HC32.out.rg.there) Tryz.sizeViewF (by simp [Value.oneCell']) ?_
    have HC42:=hide (Cb.putF HC32.out [.int .i64 16,.int .i64 5,.slice none 0 0,.int .i64 5,.slice (some ⟨b10,0,none⟩) 1 1,.int .i64 0,.int .i64 1,.int .i64 0,.int .i64 0,.string ⟨#[]⟩,.slice a7 2 c7] rfl)
    have HN4:=hide (only_setCells (w.heap.size+1+1) [.int .i64 16,.int .i64 5,.slice none 0 0,.int .i64 5,.slice (some ⟨b10,0,none⟩) 1 1,.int .i64 0,.int .i64 1,.int .i64 0,.int .i64 0,.string ⟨#[]⟩,.slice a7 2 c7] 0 X3)
    obtain ⟨X4,hX4⟩:=exq (X3.setCells (w.heap.size+1+1) 0 [.int .i64 16,.int .i64 5,.slice none 0 0,.int .i64 5,.slice (some ⟨b10,0,none⟩) 1 1,.int .i64 0,.int .i64 1,.int .i64 0,.int .i64 0,.string ⟨#[]⟩,.slice a7 2 c7])
    rw [hX4] at HN4 HC42
    rw [show X3.setCells (w.heap.size+1+1) 0 (#[.int .i64 16,.int .i64 5,.slice none 0 0,.int .i64 5,.slice (some ⟨b10,0,none⟩) 1 1,.int .i64 0,.int .i64 1,.int .i64 0,.int .i64 0,.string ⟨#[]⟩,.slice a7 2 c7]:Array Value).toList=X4 from hX4]
    clear hX4
    have HC40:=hide (HC30.out.kept HN4.out (by omega))
    have HC41:=hide (HC31.out.kept HN4.out (by omega))
    have HSS:=hide (HSS.out.kept HN4.out (fun _=>by have:=HL11.out; have:w11.drew.heap.size=w11.heap.size:=rfl; omega))
    have HO4:Hid (Only K3 w11 X4):=HO3.out.trans HN4.out (fun i hi e=>by rw [HK3.out]; show w.heap.size≤i∧i≤w.heap.size+2; omega)
    refine hK.out _ _ (HO4.out) (fun hHeld=>?_)
    clear hK K
    simp only [Act.put]
    refine tkP 22 (.bool true) rfl ?_
    refine dnN ?_
    go_wp2_with fail
    refine bodyPost_ret (results_sml rfl rfl HC40.out rfl HC41.out rfl HC42.out) rfl ?_
    have HNK:Hid (∀ b,w.heap.size+1+1 < b→¬ K3 b):=fun b hb q=>by rw [HK3.out] at q; have:w.heap.size≤b∧b≤w.heap.size+2:=q; omega
    refine ⟨BL,aL,cL,w11.heap.size,some ⟨w11.heap.size,0,none⟩,1,⟨0,none,0,b10,some ⟨b10,0,none⟩,1,B7,a7,c7⟩,rfl,?_,?_,⟨(fun q=>by cases q),by simp,by decide⟩,⟨Nz.nil _ _ _,?_,?_,HF7.out,?_,?_,?_⟩,?_⟩
    · rw [HEE.out]; exact HL11s.out.kept HO4.out (fun _ q=>HNB.out.1 q)
    · rw [HSE.out]; exact HSS.out
    · exact HN5.out.kept HO4.out (fun _ q=>HNB.out.2.1 q)
    · exact HS11.out.kept HO4.out (fun _ q=>HNB.out.2.2 q)
    · exact ⟨by decide,by decide⟩
    · exact ⟨by decide,by decide⟩
    · exact ⟨by decide,by decide⟩
    · exact HW11.out.trans HO4.out (fun i hi e=>by rw [HK3.out] at e; have:w.heap.size≤i∧i≤w.heap.size+2:=e; omega)
  · rw [if_pos (by rfl)]
    refine wp_store_mid 37 (.tmp 0) (.tmp 36) rfl w.heap.size 0 #[.int .i64 0,.int .i64 3,.int .i64 0,.int .i64 0,.string ⟨#[]⟩,.slice aL 1 cL] rfl rfl (by exact HC00.out.rg.there) Tryz.sizePageB (by simp [Value.oneCell']) ?_
    have HC10:=hide (Cb.putF HC00.out [.int .i64 0,.int .i64 3,.int .i64 0,.int .i64 0,.string ⟨#[]⟩,.slice aL 1 cL] rfl)
    have HN1:=hide (only_setCells w.heap.size [.int .i64 0,.int .i64 3,.int .i64 0,.int .i64 0,.string ⟨#[]⟩,.slice aL 1 cL] 0 w11.drew)
    obtain ⟨X1,hX1⟩:=exq (w11.drew.setCells w.heap.size 0 [.int .i64 0,.int .i64 3,.int .i64 0,.int .i64 0,.string ⟨#[]⟩,.slice aL 1 cL])
    rw [hX1] at HN1 HC10
    rw [show w11.drew.setCells w.heap.size 0 (#[.int .i64 0,.int .i64 3,.int .i64 0,.int .i64 0,.string ⟨#[]⟩,.slice aL 1 cL]:Array Value).toList=X1 from hX1]
    clear hX1
    have HC11:=hide (HC01.out.kept HN1.out (by omega))
    have HC12:=hide (HC02.out.kept HN1.out (by omega))
    have HO1:Hid (Only K3 w11 X1):=HO0.out.trans HN1.out (fun i hi e=>by rw [HK3.out]; show w.heap.size≤i∧i≤w.heap.size+2; omega)
    refine hK.out _ _ (HO1.out) (fun hHeld=>?_)
    clear hK K
    simp only [Act.put]
    refine rd1 2 rfl (fun K hK=>?_)
    go_simp
    have HN2:Hid (Only (fun _=>False) X1 (X1.alloc (.cells #[.string S] 9))):=onlyA _ _
    have HSS:Hid (Strs (X1.alloc (.cells #[.string S] 9)) X1.heap.size (some ⟨X1.heap.size,0,none⟩) [S]):=Strs.oneF X1 S HSL.out
    obtain ⟨X2,hX2⟩:=exq (X1.alloc (.cells #[.string S] 9))
    rw [hX2] at HN2 HSS ⊢
    clear hX2
    have HC20:=hide (HC10.out.more HN2.out)
    have HC21:=hide (HC11.out.more HN2.out)
    have HC22:=hide (HC12.out.more HN2.out)
    have HO2:Hid (Only K3 w11 X2):=HO1.out.trans (HN2.out.mono (fun _ _ e=>e.elim)) (fun _ _ e=>e)
    refine hK.out _ _ (HO2.out) (fun hHeld=>?_)
    clear hK K
    try simp only [Act.put,lsA,lsB,lsC]
    refine tkP 3 (.agg #[.int .i64 0,.int .i64 2,.int .i64 0,.int .i64 0,.string ⟨#[]⟩,.slice (some ⟨X1.heap.size,0,none⟩) 1 1]) rfl ?_
    refine rd1 20 rfl (fun K hK=>?_)
    rw [if_pos (by rfl)]
    refine wp_store_mid 37 (.tmp 1) (.tmp 39) rfl (w.heap.size+1) 0 #[.int .i64 0,.int .i64 2,.int .i64 0,.int .i64 0,.string ⟨#[]⟩,.slice (some ⟨X1.heap.size,0,none⟩) 1 1] rfl rfl (by exact HC21.out.rg.there) Tryz.sizePageB (by simp [Value.oneCell']) ?_
    have HC31:=hide (Cb.putF HC21.out [.int .i64 0,.int .i64 2,.int .i64 0,.int .i64 0,.string ⟨#[]⟩,.slice (some ⟨X1.heap.size,0,none⟩) 1 1] rfl)
    have HN3:=hide (only_setCells (w.heap.size+1) [.int .i64 0,.int .i64 2,.int .i64 0,.int .i64 0,.string ⟨#[]⟩,.slice (some ⟨X1.heap.size,0,none⟩) 1 1] 0 X2)
    obtain ⟨X3,hX3⟩:=exq (X2.setCells (w.heap.size+1) 0 [.int .i64 0,.int .i64 2,.int .i64 0,.int .i64 0,.string ⟨#[]⟩,.slice (some ⟨X1.heap.size,0,none⟩) 1 1])
    rw [hX3] at HN3 HC31
    rw [show X2.setCells (w.heap.size+1) 0 (#[.int .i64 0,.int .i64 2,.int .i64 0,.int .i64 0,.string ⟨#[]⟩,.slice (some ⟨X1.heap.size,0,none⟩) 1 1]:Array Value).toList=X3 from hX3]
    clear hX3
    have HC30:=hide (HC20.out.kept HN3.out (by omega))
    have HC32:=hide (HC22.out.kept HN3.out (by omega))
    have HSS:=hide (HSS.out.kept HN3.out (fun _=>by have:=HL11.out; have:=HN1.out.size; have:w11.drew.heap.size=w11.heap.size:=rfl; omega))
    have HO3:Hid (Only K3 w11 X3):=HO2.out.trans HN3.out (fun i hi e=>by rw [HK3.out]; show w.heap.size≤i∧i≤w.heap.size+2; omega)
    refine hK.out _ _ (HO3.out) (fun hHeld=>?_)
    clear hK K
    simp only [Act.put]
    refine rd1 21 rfl (fun K hK=>?_)
    rw [if_pos (by rfl)]
    refine wp_store_mid 42 (.tmp 2) (.tmp 40) rfl (w.heap.size+1+1) 0 #[.int .i64 16,.int .i64 5,.slice none 0 0,.int .i64 5,.slice (some ⟨b10,0,none⟩) 1 1,.int .i64 0,.int .i64 1,.int .i64 0,.int .i64 0,.string ⟨#[]⟩,.slice a7 2 c7] rfl rfl (by exact HC32.out.rg.there) Tryz.sizeViewF (by simp [Value.oneCell']) ?_
    have HC42:=hide (Cb.putF HC32.out [.int .i64 16,.int .i64 5,.slice none 0 0,.int .i64 5,.slice (some ⟨b10,0,none⟩) 1 1,.int .i64 0,.int .i64 1,.int .i64 0,.int .i64 0,.string ⟨#[]⟩,.slice a7 2 c7] rfl)
    have HN4:=hide (only_setCells (w.heap.size+1+1) [.int .i64 16,.int .i64 5,.slice none 0 0,.int .i64 5,.slice (some ⟨b10,0,none⟩) 1 1,.int .i64 0,.int .i64 1,.int .i64 0,.int .i64 0,.string ⟨#[]⟩,.slice a7 2 c7] 0 X3)
    obtain ⟨X4,hX4⟩:=exq (X3.setCells (w.heap.size+1+1) 0 [.int .i64 16,.int .i64 5,.slice none 0 0,.int .i64 5,.slice (some ⟨b10,0,none⟩) 1 1,.int .i64 0,.int .i64 1,.int .i64 0,.int .i64 0,.string ⟨#[]⟩,.slice a7 2 c7])
    rw [hX4] at HN4 HC42
    rw [show X3.setCells (w.heap.size+1+1) 0 (#[.int .i64 16,.int .i64 5,.slice none 0 0,.int .i64 5,.slice (some ⟨b10,0,none⟩) 1 1,.int .i64 0,.int .i64 1,.int .i64 0,.int .i64 0,.string ⟨#[]⟩,.slice a7 2 c7]:Array Value).toList=X4 from hX4]
    clear hX4
    have HC40:=hide (HC30.out.kept HN4.out (by omega))
    have HC41:=hide (HC31.out.kept HN4.out (by omega))
    have HSS:=hide (HSS.out.kept HN4.out (fun _=>by have:=HL11.out; have:=HN1.out.size; have:w11.drew.heap.size=w11.heap.size:=rfl; omega))
    have HO4:Hid (Only K3 w11 X4):=HO3.out.trans HN4.out (fun i hi e=>by rw [HK3.out]; show w.heap.size≤i∧i≤w.heap.size+2; omega)
    refine hK.out _ _ (HO4.out) (fun hHeld=>?_)
    clear hK K
    simp only [Act.put]
    refine tkP 22 (.bool true) rfl ?_
    refine dnN ?_
    go_wp2_with fail
    refine bodyPost_ret (results_sml rfl rfl HC40.out rfl HC41.out rfl HC42.out) rfl ?_
    have HNK:Hid (∀ b,w.heap.size+1+1 < b→¬ K3 b):=fun b hb q=>by rw [HK3.out] at q; have:w.heap.size≤b∧b≤w.heap.size+2:=q; omega
    refine ⟨BL,aL,cL,X1.heap.size,some ⟨X1.heap.size,0,none⟩,1,⟨0,none,0,b10,some ⟨b10,0,none⟩,1,B7,a7,c7⟩,rfl,?_,?_,⟨(fun q=>by cases q),by simp,by decide⟩,⟨Nz.nil _ _ _,?_,?_,HF7.out,?_,?_,?_⟩,?_⟩
    · rw [HEE.out]; exact HL11s.out.kept HO4.out (fun _ q=>HNB.out.1 q)
    · rw [HSE.out]; exact HSS.out
    · exact HN5.out.kept HO4.out (fun _ q=>HNB.out.2.1 q)
    · exact HS11.out.kept HO4.out (fun _ q=>HNB.out.2.2 q)
    · exact ⟨by decide,by decide⟩
    · exact ⟨by decide,by decide⟩
    · exact ⟨by decide,by decide⟩
    · exact HW11.out.trans HO4.out (fun i hi e=>by rw [HK3.out] at e; have:w.heap.size≤i∧i≤w.heap.size+2:=e; omega)
end Go.Proofs.YtajjakljheafjaaGreat
