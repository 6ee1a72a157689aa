/- Parts. -/
import Derived.Test.YtipkeeobmihogaaGreatK48
import Derived.Test.YtipkeeobmihogaaGreatK46
set_option maxRecDepth 100000
namespace Go.Proofs.YtipkeeobmihogaaGreat
open Go.RowKit
set_option maxHeartbeats 12800000 in
theorem rblaid_inner (w:World) (a:Int) (X:Nd) (s:ByteArray) (B cp:Nat) (ao:Option Addr) (hP:Nm w X B ao) (ha:0≤a∧a < 9223372036854775808) (hv:0 < X.lv) (hF:Fit ao X.items.length cp) (hs:s.size≤140737488355328) :
    Calls Tryz.prog 16 #[.agg #[.int .i64 a,.int .i64 3,.int .i64 X.lv,.int .i64 X.rt,.string (hiB X.hi),.slice ao X.items.length cp],.string s] w fun x w'=>LdR w w' x (X.ldP a (brd X.lv s)) (X.ldE (brd X.lv s)) (X.ldK (brd X.lv s)):=by
  have HX:=hide (lb_new w (.int .i64 a) (.int .i64 3) (.int .i64 X.lv) (.int .i64 X.rt) (.string (hiB X.hi)) (.slice ao X.items.length cp))
  have HCK:=hide (fcheck_nd _ a X B cp ao (hP.more HX.out.2.2.2) ha)
  have HEN:=hide (fun (W:World) (ho:Only (fun _=>False) w W)=>fkids_nd W a X B cp ao (hP.more ho) ha hv)
  have HIN:=hide (fun (e:En) (c:Int) (hc:okC c=true) (W:World) (ho:Only (fun _=>False) w W)=>fpos_wi W a X e c B cp ao (hP.more ho) ha hv hc hF)
  have HPN:=hide (fun (W:World) (ho:Only (fun _=>False) w W)=>(fpost_nd W a X noE 0 B cp ao (hP.more ho) ha hv hF).mono (fun x w' q=>q.bad (.inl rfl)))
  have hbr:brd X.lv s=decS (bl s):=by unfold brd; rw [if_neg (by omega)]
  have HEL:Hid (X.es.length≤82):=by have:=hP.few; have:=Nd.es_len X; unfold Hid; omega
  have HSD:Hid (∀ e,X.std e=decide (¬ e=noE∧e ∈ X.es)):=fun e=>by
    unfold Nd.std
    have:¬ X.lv=0:=by omega
    simp [this]
  have hv0:((X.lv:Int) == 0)=false:=by rw [beq_eq_false_iff_ne]; omega
  rw [hbr]
  have HDC:=hide (fun W=>funsep_any s W (by unfold maxLen; omega))
  clear hP ha hv hF hs hbr
  obtain ⟨h,hh⟩:=exq (hiB X.hi)
  obtain ⟨R,hR⟩:=exq ((X.rt:Int))
  obtain ⟨V,hV⟩:=exq ((X.lv:Int))
  obtain ⟨n,hn⟩:=exq (X.items.length)
  rw [hh,hR,hV,hn] at HX HCK HEN HIN HPN ⊢
  rw [hV] at hv0
  clear hh hR hV hn
  cases hd:decS (bl s) with
  | none=>
    rw [hd] at HDC
    obtain ⟨LP,hLP⟩:∃ p:Pg,Pg.none=p:=⟨_,rfl⟩
    obtain ⟨LE,hLE⟩:∃ p:En,noE=p:=⟨_,rfl⟩
    obtain ⟨LK,hLK⟩:∃ p:Int,(140:Int)=p:=⟨_,rfl⟩
    have HRES:=hide (And.intro hLP (And.intro hLE hLK))
    show Calls _ _ _ _ fun x w'=>LdR w w' x Pg.none noE 140
    rw [hLP,hLE,hLK]
    clear hLP hLE hLK hd HSD HEL HIN
    have HDC2:Hid (∀ W,Calls Tryz.prog 45 #[.string s] W fun x w'=>x=.returned (.tuple #[.agg #[.string ⟨#[]⟩,.int .i64 0,.int .i64 0],.int .i64 0,.int .i64 140])∧Only (fun _=>False) W w'):=HDC
    clear HDC
    go_enter Tryz.func16,Tryz.ntmps16
    go_upto_region 1 with fail
    obtain ⟨W0,hW0⟩:=exq (((w.alloc (.cells #[.int .i64 a,.int .i64 3,.int .i64 V,.int .i64 R,.string h,.slice ao n cp] 24)).alloc (.cells #[.int .i64 0,.int .i64 0,.int .i64 0,.int .i64 0,.string ⟨#[]⟩,.slice none 0 0] 24)).alloc (.cells #[.string ⟨#[]⟩,.int .i64 0,.int .i64 0] 41))
    rw [hW0] at HX HCK ⊢
    clear hW0
    obtain ⟨p0,p1,p2,p3,p4,p5,_⟩:=HX.out.1
    go_wp2_with fail
    refine HCK.out.mono ?_
    rintro x w1 ⟨rfl,ho⟩
    have HP1:=hide (HX.out.1.more ho)
    have HQ1:=hide (HX.out.2.1.more ho)
    have HE1:=hide (HX.out.2.2.1.more ho)
    have HO1:=hide (o2 HX.out.2.2.2 ho)
    clear ho p0 p1 p2 p3 p4 p5 HX HCK
    go_upto_region 6 with fail
    have hA1:=onlyA w1 (.cells #[.int .i64 0,.int .i64 0,.int .i64 0,.int .i64 0,.string ⟨#[]⟩,.slice none 0 0] 24)
    have hA2:=onlyA (w1.alloc (.cells #[.int .i64 0,.int .i64 0,.int .i64 0,.int .i64 0,.string ⟨#[]⟩,.slice none 0 0] 24)) (.cells #[.string ⟨#[]⟩,.int .i64 0,.int .i64 0] 41)
    have hEX:=Ev.zero (w1.alloc (.cells #[.int .i64 0,.int .i64 0,.int .i64 0,.int .i64 0,.string ⟨#[]⟩,.slice none 0 0] 24))
    rw [World.size_alloc] at hEX
    have HL2:Hid (Lb w ((w1.alloc (.cells #[.int .i64 0,.int .i64 0,.int .i64 0,.int .i64 0,.string ⟨#[]⟩,.slice none 0 0] 24)).alloc (.cells #[.string ⟨#[]⟩,.int .i64 0,.int .i64 0] 41)) (.int .i64 a) (.int .i64 3) (.int .i64 V) (.int .i64 R) (.string h) (.slice ao n cp) w1.heap.size (w1.heap.size+1) (.int .i64 0) (.int .i64 0) (.int .i64 0) (.int .i64 0) (.string ⟨#[]⟩) (.slice none 0 0) noE):=⟨HP1.out.more (o2 hA1 hA2),HQ1.out.more (o2 hA1 hA2),HE1.out.more (o2 hA1 hA2),(Pag.new w1 (.int .i64 0) (.int .i64 0) (.int .i64 0) (.int .i64 0) (.string ⟨#[]⟩) (.slice none 0 0)).more hA2,hEX,by have:=HE1.out.lt; omega,by omega,o2 HO1.out (o2 hA1 hA2)⟩
    clear hA1 hA2 hEX HP1 HQ1 HE1 HO1
    obtain ⟨xb,hxb⟩:=exq (w1.heap.size+1)
    rw [hxb] at HL2 ⊢
    clear hxb
    obtain ⟨qb,hqb⟩:=exq (w1.heap.size)
    rw [hqb] at HL2 ⊢
    clear hqb
    obtain ⟨w2,hw2⟩:=exq ((w1.alloc (.cells #[.int .i64 0,.int .i64 0,.int .i64 0,.int .i64 0,.string ⟨#[]⟩,.slice none 0 0] 24)).alloc (.cells #[.string ⟨#[]⟩,.int .i64 0,.int .i64 0] 41))
    rw [hw2] at HL2 ⊢
    clear hw2
    have p2:=HL2.out.pag.c2
    go_wp2_with fail
    refine (HDC2.out _).mono ?_
    rintro x w3 ⟨rfl,ho⟩
    have HL3:=hide (HL2.out.more ho)
    clear ho p2 HL2 HDC2
    obtain ⟨d0,d1,d2,f0,f1,f2,dl⟩:=HL3.out.x
    have HL4:Hid (Lb w (((w3.setCell ⟨xb,0,none⟩ (.string ⟨#[]⟩)).setCell ⟨xb,1,none⟩ (.int .i64 0)).setCell ⟨xb,2,none⟩ (.int .i64 0)) (.int .i64 a) (.int .i64 3) (.int .i64 V) (.int .i64 R) (.string h) (.slice ao n cp) qb xb (.int .i64 0) (.int .i64 0) (.int .i64 0) (.int .i64 0) (.string ⟨#[]⟩) (.slice none 0 0) noE):=HL3.out.setx noE
    go_upto_region 14 with fail
    obtain ⟨w4,hw4⟩:=exq (((w3.setCell ⟨xb,0,none⟩ (.string ⟨#[]⟩)).setCell ⟨xb,1,none⟩ (.int .i64 0)).setCell ⟨xb,2,none⟩ (.int .i64 0))
    rw [hw4] at HL4 ⊢
    clear hw4 d0 d1 d2 f0 f1 f2 dl HL3
    obtain ⟨p0,p1,p2,p3,p4,p5,_⟩:=HL4.out.pag
    go_wp2_with fail
    refine (HEN.out _ HL4.out.only).mono ?_
    rintro x w5 ⟨A,C,A2,C2,rfl,he,ho⟩
    have HL5:=hide (HL4.out.more ho)
    have HE5:=hide he
    clear ho he p0 p1 p2 p3 p4 p5 HL4 HEN
    have HI:Hid (Calls Tryz.prog 47 #[.agg #[.int .i64 a,.int .i64 3,.int .i64 V,.int .i64 R,.string h,.slice ao n cp],.agg #[.string ⟨#[]⟩,.int .i64 0,.int .i64 0],.int .i64 0] w5 fun x w'=>Res w5 w' x .none 140):=HPN.out w5 HL5.out.only
    clear HPN
    obtain ⟨p0,p1,p2,p3,p4,p5,_⟩:=HL5.out.pag
    have x0:w5.cell? ⟨xb,0,none⟩=some (.string ⟨#[]⟩):=HL5.out.x.c0
    have x1:w5.cell? ⟨xb,1,none⟩=some (.int .i64 0):=HL5.out.x.c1
    have x2:w5.cell? ⟨xb,2,none⟩=some (.int .i64 0):=HL5.out.x.c2
    go_wp2_with fail
    refine HI.out.mono ?_
    rintro x w7 ⟨B7,ao7,cp7,rfl,hS7,hF7,ho7,hB7⟩
    have HL7:=hide (HL5.out.more ho7)
    clear hS7 hF7 hB7 ho7 p0 p1 p2 p3 p4 p5 x0 x1 x2 HL5 HI
    obtain ⟨q0,q1,q2,q3,q4,q5,g0,g1,g2,g3,g4,g5,ql⟩:=HL7.out.q
    have HL8:=hide (HL7.out.setq (.int .i64 Pg.none.lsn) (.int .i64 Pg.none.kind) (.int .i64 Pg.none.level) (.int .i64 Pg.none.right) (.string Pg.none.high) (.slice ao7 Pg.none.items.length cp7))
    go_upto_region 18 with fail
    obtain ⟨w8,hw8⟩:=exq (((((((w7.setCell ⟨qb,0,none⟩ (.int .i64 Pg.none.lsn)).setCell ⟨qb,1,none⟩ (.int .i64 Pg.none.kind)).setCell ⟨qb,2,none⟩ (.int .i64 Pg.none.level)).setCell ⟨qb,3,none⟩ (.int .i64 Pg.none.right)).setCell ⟨qb,4,none⟩ (.string Pg.none.high)).setCell ⟨qb,5,none⟩ (.slice ao7 Pg.none.items.length cp7)))
    rw [hw8] at HL8 ⊢
    clear hw8 q0 q1 q2 q3 q4 q5 g0 g1 g2 g3 g4 g5 ql HL7
    have HRA:=hide (ret_A HL8.out.rp HL8.out.re (by omega) (.int .i64 0) (.int .i64 0) (.int .i64 0) (.int .i64 0) (.string ⟨#[]⟩) (.slice none 0 0) noE)
    obtain ⟨q0,q1,q2,q3,q4,q5,g0,g1,g2,g3,g4,g5,ql⟩:=HL8.out.rp
    obtain ⟨d0,d1,d2,f0,f1,f2,dl⟩:=HL8.out.re
    go_wp2_with fail
    refine bodyPost_ret (results_pe3 rfl rfl rfl HRA.out.1 HRA.out.2.1) rfl ?_
    obtain ⟨rfl,rfl,rfl⟩:=HRES.out
    exact LdR.none _ _ (HL8.out.only.trans HRA.out.2.2 (fun i hi k=>by omega))
  | some kk=>
    obtain ⟨e,kd⟩:=kk
    have HPO:=hide (HIN.out e kd (decS_some hd).2.1)
    rw [hd] at HDC
    clear HIN HPN
    obtain ⟨LP,hLP⟩:=exq (X.ldP a (some (e,kd)))
    obtain ⟨LE,hLE⟩:=exq (X.ldE (some (e,kd)))
    obtain ⟨LK,hLK⟩:=exq (X.ldK (some (e,kd)))
    rw [hLP,hLE,hLK]
    have HLD:=hide (And.intro hLP (And.intro hLE hLK))
    clear hLP hLE hLK hd
    have HDC2:Hid (∀ W,Calls Tryz.prog 45 #[.string s] W fun x w'=>x=.returned (.tuple #[.agg #[.string e.key,.int .i64 e.page,.int .i64 e.slot],.int .i64 kd,.int .i64 0])∧Only (fun _=>False) W w'):=HDC
    clear HDC
    go_enter Tryz.func16,Tryz.ntmps16
    go_upto_region 1 with fail
    obtain ⟨W0,hW0⟩:=exq (((w.alloc (.cells #[.int .i64 a,.int .i64 3,.int .i64 V,.int .i64 R,.string h,.slice ao n cp] 24)).alloc (.cells #[.int .i64 0,.int .i64 0,.int .i64 0,.int .i64 0,.string ⟨#[]⟩,.slice none 0 0] 24)).alloc (.cells #[.string ⟨#[]⟩,.int .i64 0,.int .i64 0] 41))
    rw [hW0] at HX HCK ⊢
    clear hW0
    obtain ⟨p0,p1,p2,p3,p4,p5,_⟩:=HX.out.1
    go_wp2_with fail
    refine HCK.out.mono ?_
    rintro x w1 ⟨rfl,ho⟩
    have HP1:=hide (HX.out.1.more ho)
    have HQ1:=hide (HX.out.2.1.more ho)
    have HE1:=hide (HX.out.2.2.1.more ho)
    have HO1:=hide (o2 HX.out.2.2.2 ho)
    clear ho p0 p1 p2 p3 p4 p5 HX HCK
    go_upto_region 6 with fail
    have hA1:=onlyA w1 (.cells #[.int .i64 0,.int .i64 0,.int .i64 0,.int .i64 0,.string ⟨#[]⟩,.slice none 0 0] 24)
    have hA2:=onlyA (w1.alloc (.cells #[.int .i64 0,.int .i64 0,.int .i64 0,.int .i64 0,.string ⟨#[]⟩,.slice none 0 0] 24)) (.cells #[.string ⟨#[]⟩,.int .i64 0,.int .i64 0] 41)
    have hEX:=Ev.zero (w1.alloc (.cells #[.int .i64 0,.int .i64 0,.int .i64 0,.int .i64 0,.string ⟨#[]⟩,.slice none 0 0] 24))
    rw [World.size_alloc] at hEX
    have HL2:Hid (Lb w ((w1.alloc (.cells #[.int .i64 0,.int .i64 0,.int .i64 0,.int .i64 0,.string ⟨#[]⟩,.slice none 0 0] 24)).alloc (.cells #[.string ⟨#[]⟩,.int .i64 0,.int .i64 0] 41)) (.int .i64 a) (.int .i64 3) (.int .i64 V) (.int .i64 R) (.string h) (.slice ao n cp) w1.heap.size (w1.heap.size+1) (.int .i64 0) (.int .i64 0) (.int .i64 0) (.int .i64 0) (.string ⟨#[]⟩) (.slice none 0 0) noE):=⟨HP1.out.more (o2 hA1 hA2),HQ1.out.more (o2 hA1 hA2),HE1.out.more (o2 hA1 hA2),(Pag.new w1 (.int .i64 0) (.int .i64 0) (.int .i64 0) (.int .i64 0) (.string ⟨#[]⟩) (.slice none 0 0)).more hA2,hEX,by have:=HE1.out.lt; omega,by omega,o2 HO1.out (o2 hA1 hA2)⟩
    clear hA1 hA2 hEX HP1 HQ1 HE1 HO1
    obtain ⟨xb,hxb⟩:=exq (w1.heap.size+1)
    rw [hxb] at HL2 ⊢
    clear hxb
    obtain ⟨qb,hqb⟩:=exq (w1.heap.size)
    rw [hqb] at HL2 ⊢
    clear hqb
    obtain ⟨w2,hw2⟩:=exq ((w1.alloc (.cells #[.int .i64 0,.int .i64 0,.int .i64 0,.int .i64 0,.string ⟨#[]⟩,.slice none 0 0] 24)).alloc (.cells #[.string ⟨#[]⟩,.int .i64 0,.int .i64 0] 41))
    rw [hw2] at HL2 ⊢
    clear hw2
    have p2:=HL2.out.pag.c2
    go_wp2_with fail
    refine (HDC2.out _).mono ?_
    rintro x w3 ⟨rfl,ho⟩
    have HL3:=hide (HL2.out.more ho)
    clear ho p2 HL2 HDC2
    obtain ⟨d0,d1,d2,f0,f1,f2,dl⟩:=HL3.out.x
    have HL4:Hid (Lb w (((w3.setCell ⟨xb,0,none⟩ (.string e.key)).setCell ⟨xb,1,none⟩ (.int .i64 e.page)).setCell ⟨xb,2,none⟩ (.int .i64 e.slot)) (.int .i64 a) (.int .i64 3) (.int .i64 V) (.int .i64 R) (.string h) (.slice ao n cp) qb xb (.int .i64 0) (.int .i64 0) (.int .i64 0) (.int .i64 0) (.string ⟨#[]⟩) (.slice none 0 0) e):=HL3.out.setx e
    go_upto_region 14 with fail
    obtain ⟨w4,hw4⟩:=exq (((w3.setCell ⟨xb,0,none⟩ (.string e.key)).setCell ⟨xb,1,none⟩ (.int .i64 e.page)).setCell ⟨xb,2,none⟩ (.int .i64 e.slot))
    rw [hw4] at HL4 ⊢
    clear hw4 d0 d1 d2 f0 f1 f2 dl HL3
    obtain ⟨p0,p1,p2,p3,p4,p5,_⟩:=HL4.out.pag
    go_wp2_with fail
    refine (HEN.out _ HL4.out.only).mono ?_
    rintro x w5 ⟨A,C,A2,C2,rfl,he,ho⟩
    have HL5:=hide (HL4.out.more ho)
    have HE5:=hide he
    clear ho he p0 p1 p2 p3 p4 p5 HL4 HEN
    have hqe:∀ W,(binOp .neq 41 (.agg #[.string e.key,.int .i64 e.page,.int .i64 e.slot]) (.agg #[.string ⟨#[]⟩,.int .i64 0,.int .i64 0])).run Tryz.prog W=.ok (.bool (!decide (e=noE))) W:=fun W=>neqE_run e noE W
    obtain ⟨d0,d1,d2,_⟩:=HL5.out.x
    by_cases hz:e=noE
    · have HZZ:=hide hz
      rw [decide_eq_true hz] at hqe
      clear hz
      go_upto_region 17 with fail
      have HL6:=hide HL5.out
      clear d0 d1 d2 HL5 HE5 hqe
      obtain ⟨w6,hw6⟩:=exq (w5)
      rw [hw6] at HL6 ⊢
      clear hw6
      have hI:=HPO.out w6 HL6.out.only
      obtain ⟨P,hPP⟩:=exq (X.wiP a (some (e,kd)))
      obtain ⟨K,hKK⟩:=exq (X.wiK (some (e,kd)))
      rw [hPP,hKK] at hI
      have HI:=hide hI
      have HKV:Hid ((K=140∧P=.none∧noE=LE∧.none=LP∧140=LK)∨((K=3∨K=0)∧e=LE∧P=LP∧K=LK)):=by
        have h1:¬ X.std e=true:=by rw [HSD.out e,decide_eq_false (fun k=>k.1 HZZ.out)]; decide
        obtain ⟨q1,q2,q3⟩:=HLD.out
        have r1:P=LP:=by rw [← q1,← hPP]; unfold Nd.ldP; exact (if_neg h1).symm
        have r2:(if K=140 then noE else e)=LE:=by rw [← q2,← hKK]; unfold Nd.ldE; exact (if_neg h1).symm
        have r3:K=LK:=by rw [← q3,← hKK]; unfold Nd.ldK; exact (if_neg h1).symm
        by_cases b:X.bad e
        · have k1:K=140:=by rw [← hKK]; exact if_pos b
          have k2:P=.none:=by rw [← hPP]; exact if_pos b
          rw [if_pos k1] at r2
          exact .inl ⟨k1,k2,r2,by rw [← r1,k2],by rw [← r3,k1]⟩
        · have k1:K=3∨K=0:=by
            rw [← hKK]
            unfold Nd.wiK
            simp only []
            rw [if_neg b]
            by_cases z:512 < (X.ins e kd).size
            · exact .inl (if_pos z)
            · exact .inr (if_neg z)
          rw [if_neg (by omega)] at r2
          exact .inr ⟨k1,r2,r1,r3⟩
      have HQB:Hid (qb < w6.heap.size):=HL6.out.q.lt
      clear HZZ HLD HPO hI hPP hKK
      obtain ⟨p0,p1,p2,p3,p4,p5,_⟩:=HL6.out.pag
      obtain ⟨x0,x1,x2,_⟩:=HL6.out.x
      go_wp2_with fail
      refine HI.out.mono ?_
      rintro x w7 ⟨B7,ao7,cp7,rfl,hS7,hF7,ho7,hB7⟩
      have HL7:=hide (HL6.out.more ho7)
      have HS7:=hide (And.intro hS7 (And.intro hF7 hB7))
      have HSZ:Hid (w.heap.size+1+1 < w6.heap.size):=HL6.out.re.lt
      clear hS7 hF7 hB7 ho7 p0 p1 p2 p3 p4 p5 x0 x1 x2 HL6 HI
      obtain ⟨q0,q1,q2,q3,q4,q5,g0,g1,g2,g3,g4,g5,ql⟩:=HL7.out.q
      have HL8:=hide (HL7.out.setq (.int .i64 P.lsn) (.int .i64 P.kind) (.int .i64 P.level) (.int .i64 P.right) (.string P.high) (.slice ao7 P.items.length cp7))
      have HS8:Hid (Strs ((((((w7.setCell ⟨qb,0,none⟩ (.int .i64 P.lsn)).setCell ⟨qb,1,none⟩ (.int .i64 P.kind)).setCell ⟨qb,2,none⟩ (.int .i64 P.level)).setCell ⟨qb,3,none⟩ (.int .i64 P.right)).setCell ⟨qb,4,none⟩ (.string P.high)).setCell ⟨qb,5,none⟩ (.slice ao7 P.items.length cp7)) B7 ao7 P.items):=HS7.out.1.kept (Only.six w7 qb (.int .i64 P.lsn) (.int .i64 P.kind) (.int .i64 P.level) (.int .i64 P.right) (.string P.high) (.slice ao7 P.items.length cp7)) (fun k z=>by have:=HS7.out.2.2 k; have:=HQB.out; omega)
      go_upto_region 18 with fail
      obtain ⟨w8,hw8⟩:=exq (((((((w7.setCell ⟨qb,0,none⟩ (.int .i64 P.lsn)).setCell ⟨qb,1,none⟩ (.int .i64 P.kind)).setCell ⟨qb,2,none⟩ (.int .i64 P.level)).setCell ⟨qb,3,none⟩ (.int .i64 P.right)).setCell ⟨qb,4,none⟩ (.string P.high)).setCell ⟨qb,5,none⟩ (.slice ao7 P.items.length cp7)))
      rw [hw8] at HL8 HS8 ⊢
      clear hw8 q0 q1 q2 q3 q4 q5 g0 g1 g2 g3 g4 g5 ql HL7
      rcases HKV.out with ⟨rfl,hPn,hE',hP',hK'⟩ | ⟨hk,hE',hP',hK'⟩
      · have HRES:Hid (.none=LP∧noE=LE∧140=LK):=⟨hP',hE',hK'⟩
        clear hPn hE' hP' hK' HKV
        have HRA:=hide (ret_A HL8.out.rp HL8.out.re (by omega) (.int .i64 0) (.int .i64 0) (.int .i64 0) (.int .i64 0) (.string ⟨#[]⟩) (.slice none 0 0) noE)
        obtain ⟨q0,q1,q2,q3,q4,q5,g0,g1,g2,g3,g4,g5,ql⟩:=HL8.out.rp
        obtain ⟨d0,d1,d2,f0,f1,f2,dl⟩:=HL8.out.re
        go_wp2_with fail
        refine bodyPost_ret (results_pe3 rfl rfl rfl HRA.out.1 HRA.out.2.1) rfl ?_
        obtain ⟨rfl,rfl,rfl⟩:=HRES.out
        exact LdR.none _ _ (HL8.out.only.trans HRA.out.2.2 (fun i hi k=>by omega))
      · have HRES:Hid (P=LP∧e=LE∧K=LK):=⟨hP',hE',hK'⟩
        clear hE' hP' hK' HKV
        have HFIN:Hid (∀ W,Only (fun k=>k=w.heap.size+1∨k=w.heap.size+1+1) w8 W→Strs W B7 ao7 P.items∧Only (fun _=>False) w W∧(0 < P.items.length→w.heap.size≤B7)):=fun W ho=>⟨HS8.out.kept ho (fun k z=>by have:=HS7.out.2.2 k; have:=HSZ.out; omega),HL8.out.only.trans ho (fun i hi k=>by omega),fun k=>by have:=HS7.out.2.2 k; have:=HSZ.out; omega⟩
        go_cut [92] (fun x wx=>x=.bool false∧wx=w8)
        case first=>
          rcases hk with rfl | rfl
          all_goals go_wp2_with fail
          all_goals go_meet
          all_goals exact ⟨rfl,rfl⟩
        case rest=>
          obtain ⟨rfl,hwx⟩:=hcut
          obtain rfl:=hwx.symm
          go_upto_region 20 with fail
          have hRA:=ret_A HL8.out.rp HL8.out.re (by omega) (.int .i64 P.lsn) (.int .i64 P.kind) (.int .i64 P.level) (.int .i64 P.right) (.string P.high) (.slice ao7 P.items.length cp7) e
          have hRB:=ret_B HL8.out.rp HL8.out.re (by omega) (.int .i64 P.lsn) (.int .i64 P.kind) (.int .i64 P.level) (.int .i64 P.right) (.string P.high) (.slice ao7 P.items.length cp7) e
          have HRA:=hide hRA
          have HRB:=hide hRB
          clear hRA hRB
          obtain ⟨q0,q1,q2,q3,q4,q5,g0,g1,g2,g3,g4,g5,ql⟩:=HL8.out.rp
          obtain ⟨d0,d1,d2,f0,f1,f2,dl⟩:=HL8.out.re
          obtain ⟨x0,x1,x2,_⟩:=HL8.out.x
          have hx1:¬ xb=w.heap.size+1:=by have:=HL8.out.qn; have:=HL8.out.xn; omega
          have hx2:¬ xb=w.heap.size+1+1:=by have:=HL8.out.qn; have:=HL8.out.xn; omega
          have hx3:¬ w.heap.size+1=xb:=by omega
          have hx4:¬ w.heap.size+1+1=xb:=by omega
          obtain ⟨u0,u1,u2,u3,u4,u5,_⟩:=HL8.out.q
          have hy1:¬ qb=w.heap.size+1:=by have:=HL8.out.qn; omega
          have hy2:¬ qb=w.heap.size+1+1:=by have:=HL8.out.qn; omega
          go_region
          all_goals go_wp2_with fail
          all_goals first | (refine bodyPost_ret (results_pe3 rfl rfl rfl (HRA.out.1.more (Only.drew _ _)) (HRA.out.2.1.more (Only.drew _ _))) rfl ?_) | (refine bodyPost_ret (results_pe3 rfl rfl rfl (HRB.out.1.more (Only.drew _ _)) (HRB.out.2.1.more (Only.drew _ _))) rfl ?_)
          all_goals (obtain ⟨rfl,rfl,rfl⟩:=HRES.out)
          all_goals exact ⟨B7,ao7,cp7,rfl,((HFIN.out _ HRA.out.2.2).1).more (Only.drew _ _),HS7.out.2.1,o2 (HFIN.out _ HRA.out.2.2).2.1 (Only.drew _ _),(HFIN.out _ HRA.out.2.2).2.2⟩
    · have HZZ:=hide hz
      rw [decide_eq_false hz] at hqe
      clear hz
      obtain ⟨B5,hl5,_⟩:=HE5.out.elsOf
      have HST:=hide (rbstands_any w5 B5 X.es.length C A X.es e hl5 rfl (by have:=HEL.out; omega))
      clear hl5
      go_wp2_with fail
      refine HST.out.mono ?_
      rintro x w6 ⟨rfl,ho⟩
      have HL6:=hide (HL5.out.more ho)
      clear ho d0 d1 d2 HL5 HE5 HST hqe
      by_cases hm:e ∈ X.es
      · rw [decide_eq_true hm]
        have HRES:Hid (.none=LP∧e=LE∧150=LK):=by
          have h1:=HSD.out e
          rw [decide_eq_true ⟨HZZ.out,hm⟩] at h1
          obtain ⟨q1,q2,q3⟩:=HLD.out
          rw [← q1,← q2,← q3]
          unfold Nd.ldP Nd.ldE Nd.ldK
          exact ⟨(if_pos h1).symm,(if_pos h1).symm,(if_pos h1).symm⟩
        clear hm HLD HPO
        go_upto_region 16 with fail
        have hRA:=ret_A HL6.out.rp HL6.out.re (by omega) (.int .i64 0) (.int .i64 0) (.int .i64 0) (.int .i64 0) (.string ⟨#[]⟩) (.slice none 0 0) e
        have hRB:=ret_B HL6.out.rp HL6.out.re (by omega) (.int .i64 0) (.int .i64 0) (.int .i64 0) (.int .i64 0) (.string ⟨#[]⟩) (.slice none 0 0) e
        have HRA:=hide hRA
        have HRB:=hide hRB
        clear hRA hRB
        obtain ⟨q0,q1,q2,q3,q4,q5,g0,g1,g2,g3,g4,g5,ql⟩:=HL6.out.rp
        obtain ⟨d0,d1,d2,f0,f1,f2,dl⟩:=HL6.out.re
        obtain ⟨x0,x1,x2,_⟩:=HL6.out.x
        have hx1:¬ xb=w.heap.size+1:=by have:=HL6.out.qn; have:=HL6.out.xn; omega
        have hx2:¬ xb=w.heap.size+1+1:=by have:=HL6.out.qn; have:=HL6.out.xn; omega
        have hx3:¬ w.heap.size+1=xb:=by omega
        have hx4:¬ w.heap.size+1+1=xb:=by omega
        go_region
        all_goals go_wp2_with fail
        all_goals first | (refine bodyPost_ret (results_pe3 rfl rfl rfl (HRA.out.1.more (Only.drew _ _)) (HRA.out.2.1.more (Only.drew _ _))) rfl ?_) | (refine bodyPost_ret (results_pe3 rfl rfl rfl (HRB.out.1.more (Only.drew _ _)) (HRB.out.2.1.more (Only.drew _ _))) rfl ?_)
        all_goals (obtain ⟨rfl,rfl,rfl⟩:=HRES.out)
        all_goals exact LdR.none _ _ (o2 (HL6.out.only.trans HRA.out.2.2 (fun i hi k=>by omega)) (Only.drew _ _))
      · rw [decide_eq_false hm]
        have hI:=HPO.out w6 HL6.out.only
        obtain ⟨P,hPP⟩:=exq (X.wiP a (some (e,kd)))
        obtain ⟨K,hKK⟩:=exq (X.wiK (some (e,kd)))
        rw [hPP,hKK] at hI
        have HI:=hide hI
        have HKV:Hid ((K=140∧P=.none∧noE=LE∧.none=LP∧140=LK)∨((K=3∨K=0)∧e=LE∧P=LP∧K=LK)):=by
          have h1:¬ X.std e=true:=by rw [HSD.out e,decide_eq_false (fun k=>hm k.2)]; decide
          obtain ⟨q1,q2,q3⟩:=HLD.out
          have r1:P=LP:=by rw [← q1,← hPP]; unfold Nd.ldP; exact (if_neg h1).symm
          have r2:(if K=140 then noE else e)=LE:=by rw [← q2,← hKK]; unfold Nd.ldE; exact (if_neg h1).symm
          have r3:K=LK:=by rw [← q3,← hKK]; unfold Nd.ldK; exact (if_neg h1).symm
          by_cases b:X.bad e
          · have k1:K=140:=by rw [← hKK]; exact if_pos b
            have k2:P=.none:=by rw [← hPP]; exact if_pos b
            rw [if_pos k1] at r2
            exact .inl ⟨k1,k2,r2,by rw [← r1,k2],by rw [← r3,k1]⟩
          · have k1:K=3∨K=0:=by
              rw [← hKK]
              unfold Nd.wiK
              simp only []
              rw [if_neg b]
              by_cases z:512 < (X.ins e kd).size
              · exact .inl (if_pos z)
              · exact .inr (if_neg z)
            rw [if_neg (by omega)] at r2
            exact .inr ⟨k1,r2,r1,r3⟩
        have HQB:Hid (qb < w6.heap.size):=HL6.out.q.lt
        clear hm HLD HPO hI hPP hKK
        obtain ⟨p0,p1,p2,p3,p4,p5,_⟩:=HL6.out.pag
        obtain ⟨x0,x1,x2,_⟩:=HL6.out.x
        go_wp2_with fail
        refine HI.out.mono ?_
        rintro x w7 ⟨B7,ao7,cp7,rfl,hS7,hF7,ho7,hB7⟩
        have HL7:=hide (HL6.out.more ho7)
        have HS7:=hide (And.intro hS7 (And.intro hF7 hB7))
        have HSZ:Hid (w.heap.size+1+1 < w6.heap.size):=HL6.out.re.lt
        clear hS7 hF7 hB7 ho7 p0 p1 p2 p3 p4 p5 x0 x1 x2 HL6 HI
        obtain ⟨q0,q1,q2,q3,q4,q5,g0,g1,g2,g3,g4,g5,ql⟩:=HL7.out.q
        have HL8:=hide (HL7.out.setq (.int .i64 P.lsn) (.int .i64 P.kind) (.int .i64 P.level) (.int .i64 P.right) (.string P.high) (.slice ao7 P.items.length cp7))
        have HS8:Hid (Strs ((((((w7.setCell ⟨qb,0,none⟩ (.int .i64 P.lsn)).setCell ⟨qb,1,none⟩ (.int .i64 P.kind)).setCell ⟨qb,2,none⟩ (.int .i64 P.level)).setCell ⟨qb,3,none⟩ (.int .i64 P.right)).setCell ⟨qb,4,none⟩ (.string P.high)).setCell ⟨qb,5,none⟩ (.slice ao7 P.items.length cp7)) B7 ao7 P.items):=HS7.out.1.kept (Only.six w7 qb (.int .i64 P.lsn) (.int .i64 P.kind) (.int .i64 P.level) (.int .i64 P.right) (.string P.high) (.slice ao7 P.items.length cp7)) (fun k z=>by have:=HS7.out.2.2 k; have:=HQB.out; omega)
        go_upto_region 18 with fail
        obtain ⟨w8,hw8⟩:=exq (((((((w7.setCell ⟨qb,0,none⟩ (.int .i64 P.lsn)).setCell ⟨qb,1,none⟩ (.int .i64 P.kind)).setCell ⟨qb,2,none⟩ (.int .i64 P.level)).setCell ⟨qb,3,none⟩ (.int .i64 P.right)).setCell ⟨qb,4,none⟩ (.string P.high)).setCell ⟨qb,5,none⟩ (.slice ao7 P.items.length cp7)))
        rw [hw8] at HL8 HS8 ⊢
        clear hw8 q0 q1 q2 q3 q4 q5 g0 g1 g2 g3 g4 g5 ql HL7
        rcases HKV.out with ⟨rfl,hPn,hE',hP',hK'⟩ | ⟨hk,hE',hP',hK'⟩
        · have HRES:Hid (.none=LP∧noE=LE∧140=LK):=⟨hP',hE',hK'⟩
          clear hPn hE' hP' hK' HKV
          have HRA:=hide (ret_A HL8.out.rp HL8.out.re (by omega) (.int .i64 0) (.int .i64 0) (.int .i64 0) (.int .i64 0) (.string ⟨#[]⟩) (.slice none 0 0) noE)
          obtain ⟨q0,q1,q2,q3,q4,q5,g0,g1,g2,g3,g4,g5,ql⟩:=HL8.out.rp
          obtain ⟨d0,d1,d2,f0,f1,f2,dl⟩:=HL8.out.re
          go_wp2_with fail
          refine bodyPost_ret (results_pe3 rfl rfl rfl HRA.out.1 HRA.out.2.1) rfl ?_
          obtain ⟨rfl,rfl,rfl⟩:=HRES.out
          exact LdR.none _ _ (HL8.out.only.trans HRA.out.2.2 (fun i hi k=>by omega))
        · have HRES:Hid (P=LP∧e=LE∧K=LK):=⟨hP',hE',hK'⟩
          clear hE' hP' hK' HKV
          have HFIN:Hid (∀ W,Only (fun k=>k=w.heap.size+1∨k=w.heap.size+1+1) w8 W→Strs W B7 ao7 P.items∧Only (fun _=>False) w W∧(0 < P.items.length→w.heap.size≤B7)):=fun W ho=>⟨HS8.out.kept ho (fun k z=>by have:=HS7.out.2.2 k; have:=HSZ.out; omega),HL8.out.only.trans ho (fun i hi k=>by omega),fun k=>by have:=HS7.out.2.2 k; have:=HSZ.out; omega⟩
          go_cut [92] (fun x wx=>x=.bool false∧wx=w8)
          case first=>
            rcases hk with rfl | rfl
            all_goals go_wp2_with fail
            all_goals go_meet
            all_goals exact ⟨rfl,rfl⟩
          case rest=>
            obtain ⟨rfl,hwx⟩:=hcut
            obtain rfl:=hwx.symm
            go_upto_region 20 with fail
            have hRA:=ret_A HL8.out.rp HL8.out.re (by omega) (.int .i64 P.lsn) (.int .i64 P.kind) (.int .i64 P.level) (.int .i64 P.right) (.string P.high) (.slice ao7 P.items.length cp7) e
            have hRB:=ret_B HL8.out.rp HL8.out.re (by omega) (.int .i64 P.lsn) (.int .i64 P.kind) (.int .i64 P.level) (.int .i64 P.right) (.string P.high) (.slice ao7 P.items.length cp7) e
            have HRA:=hide hRA
            have HRB:=hide hRB
            clear hRA hRB
            obtain ⟨q0,q1,q2,q3,q4,q5,g0,g1,g2,g3,g4,g5,ql⟩:=HL8.out.rp
            obtain ⟨d0,d1,d2,f0,f1,f2,dl⟩:=HL8.out.re
            obtain ⟨x0,x1,x2,_⟩:=HL8.out.x
            have hx1:¬ xb=w.heap.size+1:=by have:=HL8.out.qn; have:=HL8.out.xn; omega
            have hx2:¬ xb=w.heap.size+1+1:=by have:=HL8.out.qn; have:=HL8.out.xn; omega
            have hx3:¬ w.heap.size+1=xb:=by omega
            have hx4:¬ w.heap.size+1+1=xb:=by omega
            obtain ⟨u0,u1,u2,u3,u4,u5,_⟩:=HL8.out.q
            have hy1:¬ qb=w.heap.size+1:=by have:=HL8.out.qn; omega
            have hy2:¬ qb=w.heap.size+1+1:=by have:=HL8.out.qn; omega
            go_region
            all_goals go_wp2_with fail
            all_goals first | (refine bodyPost_ret (results_pe3 rfl rfl rfl (HRA.out.1.more (Only.drew _ _)) (HRA.out.2.1.more (Only.drew _ _))) rfl ?_) | (refine bodyPost_ret (results_pe3 rfl rfl rfl (HRB.out.1.more (Only.drew _ _)) (HRB.out.2.1.more (Only.drew _ _))) rfl ?_)
            all_goals (obtain ⟨rfl,rfl,rfl⟩:=HRES.out)
            all_goals exact ⟨B7,ao7,cp7,rfl,((HFIN.out _ HRA.out.2.2).1).more (Only.drew _ _),HS7.out.2.1,o2 (HFIN.out _ HRA.out.2.2).2.1 (Only.drew _ _),(HFIN.out _ HRA.out.2.2).2.2⟩
def ndC (page K:Int):Int × Int:=if K=3 then (if page=1 then 2 else 1,0) else (0,K)
set_option maxHeartbeats 3200000 in
theorem rbneed_of (w:World) (a k v r page:Int) (h s:ByteArray) (ao:Option Addr) (n cp:Nat) (P:Pg) (E:En) (K:Int)
    (hL:∀ W,Only (fun _=>False) w W→Calls Tryz.prog 16 #[.agg #[.int .i64 a,.int .i64 k,.int .i64 v,.int .i64 r,.string h,.slice ao n cp],.string s] W fun x w'=>LdR W w' x P E K) :
    Calls Tryz.prog 5 #[.agg #[.int .i64 a,.int .i64 k,.int .i64 v,.int .i64 r,.string h,.slice ao n cp],.int .i64 page,.string s] w fun x w'=>x=.returned (.tuple #[.int .i64 (ndC page K).1,.int .i64 (ndC page K).2])∧Only (fun _=>False) w w':=by
  have HP:=hide (Pag.new w (.int .i64 a) (.int .i64 k) (.int .i64 v) (.int .i64 r) (.string h) (.slice ao n cp))
  have HO:=hide (onlyA w (.cells #[.int .i64 a,.int .i64 k,.int .i64 v,.int .i64 r,.string h,.slice ao n cp] 24))
  have HL:=hide hL
  obtain ⟨q,hq⟩:=exq (ndC page K)
  rw [hq]
  obtain ⟨N,F⟩:=q
  have HQ:=hide hq
  clear hL hq
  go_enter Tryz.func5,Tryz.ntmps5
  go_upto_region 1 with fail
  obtain ⟨W0,hW0⟩:=exq (w.alloc (.cells #[.int .i64 a,.int .i64 k,.int .i64 v,.int .i64 r,.string h,.slice ao n cp] 24))
  rw [hW0] at HP HO ⊢
  clear hW0
  obtain ⟨p0,p1,p2,p3,p4,p5,_⟩:=HP.out
  go_wp2_with fail
  refine (HL.out _ HO.out).mono ?_
  rintro x w1 ⟨B7,ao7,cp7,rfl,_,_,ho,_⟩
  have HO1:=hide (o2 HO.out ho)
  clear ho p0 p1 p2 p3 p4 p5 HP HO HL
  unfold En.agg
  go_upto_region 2 with fail
  have HO2:=hide (o2 HO1.out (o2 (onlyA w1 (.cells #[.int .i64 P.lsn,.int .i64 P.kind,.int .i64 P.level,.int .i64 P.right,.string P.high,.slice ao7 P.items.length cp7] 24)) (onlyA (w1.alloc (.cells #[.int .i64 P.lsn,.int .i64 P.kind,.int .i64 P.level,.int .i64 P.right,.string P.high,.slice ao7 P.items.length cp7] 24)) (.cells #[.string E.key,.int .i64 E.page,.int .i64 E.slot] 41))))
  obtain ⟨w2,hw2⟩:=exq ((w1.alloc (.cells #[.int .i64 P.lsn,.int .i64 P.kind,.int .i64 P.level,.int .i64 P.right,.string P.high,.slice ao7 P.items.length cp7] 24)).alloc (.cells #[.string E.key,.int .i64 E.page,.int .i64 E.slot] 41))
  rw [hw2] at HO2 ⊢
  clear hw2 HO1
  by_cases hk:K=3
  · have hk1:(K == 3)=true:=by simpa using hk
    have hq:=HQ.out
    unfold ndC at hq
    rw [if_pos hk] at hq
    by_cases hp:page=1
    · rw [if_pos hp] at hq
      have HR:Hid ((2:Int)=N∧(0:Int)=F):=by
        rw [Prod.mk.injEq] at hq
        exact hq
      have hp1:(page == 1)=true:=by simpa using hp
      subst hk
      clear hp hq HQ
      go_wp2_with fail
      go_ret2
      obtain ⟨rfl,rfl⟩:=HR.out
      exact ⟨rfl,HO2.out⟩
    · rw [if_neg hp] at hq
      have HR:Hid ((1:Int)=N∧(0:Int)=F):=by
        rw [Prod.mk.injEq] at hq
        exact hq
      have hp1:(page == 1)=false:=by simpa using hp
      subst hk
      clear hp hq HQ
      go_wp2_with fail
      go_ret2
      obtain ⟨rfl,rfl⟩:=HR.out
      exact ⟨rfl,HO2.out⟩
  · have hk1:(K == 3)=false:=by simpa using hk
    have HR:Hid ((0:Int)=N∧K=F):=by
      have hq:=HQ.out
      unfold ndC at hq
      rw [if_neg hk,Prod.mk.injEq] at hq
      exact hq
    clear hk HQ
    go_wp2_with fail
    go_ret2
    obtain ⟨rfl,rfl⟩:=HR.out
    exact ⟨rfl,HO2.out⟩
theorem ndC_need (X:Nd) (page:Int) (o:Option (En × Int)):ndC page (X.ldK o)=X.need page o:=by
  unfold ndC
  cases o with
  | none=>rfl
  | some k=>
    show (if (if X.std k.1=true then (150:Int) else X.wiK (some k))=3 then _ else _)=(if X.std k.1=true then _ else _)
    by_cases h:X.std k.1=true
    · rw [if_pos h,if_pos h,if_neg (by decide)]
      show ((0:Int),(if X.std k.1=true then (150:Int) else X.wiK (some k)))=_
      rw [if_pos h]
    · rw [if_neg h,if_neg h]
      by_cases z:X.wiK (some k)=3
      · rw [if_pos z,if_pos z]
      · rw [if_neg z,if_neg z]
        show ((0:Int),(if X.std k.1=true then (150:Int) else X.wiK (some k)))=_
        rw [if_neg h]
theorem rblaid_nd (w:World) (a:Int) (X:Nd) (s:ByteArray) (B cp:Nat) (ao:Option Addr) (hP:Nm w X B ao) (ha:0≤a∧a < 9223372036854775808) (hF:Fit ao X.items.length cp) (hs:s.size≤140737488355328) :
    Calls Tryz.prog 16 #[.agg #[.int .i64 a,.int .i64 3,.int .i64 X.lv,.int .i64 X.rt,.string (hiB X.hi),.slice ao X.items.length cp],.string s] w fun x w'=>LdR w w' x (X.ldP a (brd X.lv s)) (X.ldE (brd X.lv s)) (X.ldK (brd X.lv s)):=by
  by_cases hv:X.lv=0
  · have q:=rblaid_leaf w a X s B cp ao hP ha hv hF hs
    have e0:(X.lv:Int)=0:=by omega
    rw [e0]
    exact q
  · exact rblaid_inner w a X s B cp ao hP ha (by omega) hF hs
theorem rbneed_nd (w:World) (a page:Int) (X:Nd) (s:ByteArray) (B cp:Nat) (ao:Option Addr) (hP:Nm w X B ao) (ha:0≤a∧a < 9223372036854775808) (hF:Fit ao X.items.length cp) (hs:s.size≤140737488355328) :
    Calls Tryz.prog 5 #[.agg #[.int .i64 a,.int .i64 3,.int .i64 X.lv,.int .i64 X.rt,.string (hiB X.hi),.slice ao X.items.length cp],.int .i64 page,.string s] w fun x w'=>x=.returned (.tuple #[.int .i64 (X.need page (brd X.lv s)).1,.int .i64 (X.need page (brd X.lv s)).2])∧Only (fun _=>False) w w':=by
  have q:=rbneed_of w a 3 X.lv X.rt page (hiB X.hi) s ao X.items.length cp _ _ _ (fun W ho=>rblaid_nd W a X s B cp ao (hP.more ho) ha hF hs)
  rw [ndC_need] at q
  exact q
theorem rbneed_no (w:World) (a k v r page:Int) (h:ByteArray) (s:ByteArray) (B cp:Nat) (ao:Option Addr) (l:List ByteArray) (hS:Strs w B ao l) (hh:h.size≤140737488355328) (ha:a < 9223372036854775808) (hb:ckB a k v r h l=false) :
    Calls Tryz.prog 5 #[.agg #[.int .i64 a,.int .i64 k,.int .i64 v,.int .i64 r,.string h,.slice ao l.length cp],.int .i64 page,.string s] w fun x w'=>x=.returned (.tuple #[.int .i64 0,.int .i64 140])∧Only (fun _=>False) w w' :=
  rbneed_of w a k v r page h s ao l.length cp .none noE 140 (fun W ho=>rblaid_no W a k v r h s B cp ao l (hS.more ho) hh ha hb)
set_option maxHeartbeats 3200000 in
theorem rbenter_err (w:World) (a k v r page:Int) (h s:ByteArray) (ao:Option Addr) (n cp:Nat) (m fc:Nat) (fa:Option Addr) (N E:Int) (hE:¬ E=0)
    (hL:∀ W,Only (fun _=>False) w W→Calls Tryz.prog 5 #[.agg #[.int .i64 a,.int .i64 k,.int .i64 v,.int .i64 r,.string h,.slice ao n cp],.int .i64 page,.string s] W fun x w'=>x=.returned (.tuple #[.int .i64 N,.int .i64 E])∧Only (fun _=>False) W w') :
    Calls Tryz.prog 7 #[.agg #[.int .i64 a,.int .i64 k,.int .i64 v,.int .i64 r,.string h,.slice ao n cp],.int .i64 page,.string s,.slice fa m fc] w fun x w'=>x=.returned (.tuple #[.agg Br.none.cells,.int .i64 E])∧Only (fun _=>False) w w':=by
  have HX:=hide (en_new w (.int .i64 a) (.int .i64 k) (.int .i64 v) (.int .i64 r) (.string h) (.slice ao n cp))
  have HND:=hide hL
  have hE2:(E == 0)=false:=by simpa using hE
  clear hL hE
  go_enter Tryz.func7,Tryz.ntmps7
  go_upto_region 1 with fail
  obtain ⟨W0,hW0⟩:=exq ((w.alloc (.cells #[.int .i64 a,.int .i64 k,.int .i64 v,.int .i64 r,.string h,.slice ao n cp] 24)).alloc (.cells Br.none.cells 36))
  rw [hW0] at HX ⊢
  clear hW0
  obtain ⟨p0,p1,p2,p3,p4,p5,_⟩:=HX.out.1
  go_wp2_with fail
  refine (HND.out _ HX.out.2.2).mono ?_
  rintro x w1 ⟨rfl,ho⟩
  have HR1:=hide (HX.out.2.1.more ho)
  have HO1:=hide (o2 HX.out.2.2 ho)
  clear ho p0 p1 p2 p3 p4 p5 HX HND
  go_wp2_with (first | (refine wpList_build_bnone rfl rfl ?_; go_frame) | (refine wpList_put_br rfl (.tmp 8) (.tmp 34) rfl (w.heap.size+1) rfl Br.none.cl rfl Br.none rfl HR1.out ?_; intro W9 HW9; go_frame))
  refine bodyPost_ret (results_br rfl rfl HW9.out.at_) rfl ?_
  exact ⟨rfl,HO1.out.trans HW9.out.only (fun i hi e=>by omega)⟩
theorem rbenter_no (w:World) (a k v r page:Int) (h:ByteArray) (s:ByteArray) (B cp:Nat) (ao:Option Addr) (l:List ByteArray) (hS:Strs w B ao l) (hh:h.size≤140737488355328) (ha:a < 9223372036854775808) (hb:ckB a k v r h l=false) (m fc:Nat) (fa:Option Addr) :
    Calls Tryz.prog 7 #[.agg #[.int .i64 a,.int .i64 k,.int .i64 v,.int .i64 r,.string h,.slice ao l.length cp],.int .i64 page,.string s,.slice fa m fc] w fun x w'=>x=.returned (.tuple #[.agg Br.none.cells,.int .i64 140])∧Only (fun _=>False) w w' :=
  rbenter_err w a k v r page h s ao l.length cp m fc fa 0 140 (by decide) (fun W ho=>rbneed_no W a k v r page h s B cp ao l (hS.more ho) hh ha hb)
theorem rbenter_bad (w:World) (a page:Int) (X:Nd) (s:ByteArray) (B cp:Nat) (ao:Option Addr) (hP:Nm w X B ao) (ha:0≤a∧a < 9223372036854775808) (hF:Fit ao X.items.length cp) (hs:s.size≤140737488355328) (m fc:Nat) (fa:Option Addr) (N E:Int) (hN:X.need page (brd X.lv s)=(N,E)) (hE:¬ E=0) :
    Calls Tryz.prog 7 #[.agg #[.int .i64 a,.int .i64 3,.int .i64 X.lv,.int .i64 X.rt,.string (hiB X.hi),.slice ao X.items.length cp],.int .i64 page,.string s,.slice fa m fc] w fun x w'=>x=.returned (.tuple #[.agg Br.none.cells,.int .i64 E])∧Only (fun _=>False) w w' :=
  rbenter_err w a 3 X.lv X.rt page (hiB X.hi) s ao X.items.length cp m fc fa N E hE (fun W ho=>by
    have q:=rbneed_nd W a page X s B cp ao (hP.more ho) ha hF hs
    rw [hN] at q
    exact q)
set_option maxHeartbeats 3200000 in
theorem rbenter_few (w:World) (a page:Int) (X:Nd) (s:ByteArray) (B cp:Nat) (ao:Option Addr) (hP:Nm w X B ao) (ha:0≤a∧a < 9223372036854775808) (hF:Fit ao X.items.length cp) (hs:s.size≤140737488355328) (zs:List Int) (fb fc:Nat) (fa:Option Addr) (hZ:Ns w fb fa zs) (hB:0 < zs.length→fb < w.heap.size) (N:Int) (hN:X.need page (brd X.lv s)=(N,0)) (hc:¬ RtP zs N∨N=0) :
    Calls Tryz.prog 7 #[.agg #[.int .i64 a,.int .i64 3,.int .i64 X.lv,.int .i64 X.rt,.string (hiB X.hi),.slice ao X.items.length cp],.int .i64 page,.string s,.slice fa zs.length fc] w fun x w'=>((¬ RtP zs N→x=.returned (.tuple #[.agg Br.none.cells,.int .i64 1]))∧(RtP zs N→x=.returned (.tuple #[.agg (Br.cells ⟨3,page,s,none,0,0⟩),.int .i64 0])))∧Only (fun _=>False) w w':=by
  have HX:=hide (en_new w (.int .i64 a) (.int .i64 3) (.int .i64 X.lv) (.int .i64 X.rt) (.string (hiB X.hi)) (.slice ao X.items.length cp))
  have HND:Hid (∀ W,Only (fun _=>False) w W→Calls Tryz.prog 5 #[.agg #[.int .i64 a,.int .i64 3,.int .i64 X.lv,.int .i64 X.rt,.string (hiB X.hi),.slice ao X.items.length cp],.int .i64 page,.string s] W fun x w'=>x=.returned (.tuple #[.int .i64 N,.int .i64 0])∧Only (fun _=>False) W w'):=fun W ho=>by
    have q:=rbneed_nd W a page X s B cp ao (hP.more ho) ha hF hs
    rw [hN] at q
    exact q
  have HRT:Hid (∀ W,Only (fun _=>False) w W→Calls Tryz.prog 20 #[.slice fa zs.length fc,.int .i64 N] W fun x w'=>RtR x zs N∧Only (fun _=>False) W w'):=fun W ho=>rbright_any W fb fc fa zs N ⟨fun h0=>by obtain ⟨o,q,hc⟩:=hZ.at_ h0; exact ⟨o,q,fun j hj=>(ho.cell (p:=⟨fb,o+j,none⟩) (hB h0) (fun h=>h)).trans (hc j hj)⟩,hZ.len⟩ (fun h0=>Nat.lt_of_lt_of_le (hB h0) ho.size)
  have HCC:=hide hc
  clear hP ha hF hs hZ hB hN hc
  obtain ⟨L,hL⟩:=exq ((X.lv:Int))
  obtain ⟨R,hR⟩:=exq ((X.rt:Int))
  obtain ⟨h,hh⟩:=exq (hiB X.hi)
  obtain ⟨n,hn⟩:=exq (X.items.length)
  rw [hL,hR,hh,hn] at HX HND ⊢
  clear hL hR hh hn
  obtain ⟨m,hm⟩:=exq (zs.length)
  rw [hm] at HRT ⊢
  clear hm
  obtain ⟨T,hT⟩:=exq (RtP zs N)
  unfold RtR at HRT
  rw [hT] at HRT HCC ⊢
  clear hT
  obtain ⟨Z,hZ⟩:∃ Z:Ending→Prop,(fun x=>(¬ T→x=.returned (.tuple #[.agg Br.none.cells,.int .i64 1]))∧(T→x=.returned (.tuple #[.agg (Br.cells ⟨3,page,s,none,0,0⟩),.int .i64 0])))=Z:=⟨_,rfl⟩
  have HZ1:Hid (¬ T→Z (.returned (.tuple #[.agg Br.none.cells,.int .i64 1]))):=fun q=>by rw [← hZ]; exact ⟨fun _=>rfl,fun k=>absurd k q⟩
  have HZ2:Hid (T→Z (.returned (.tuple #[.agg (Br.cells ⟨3,page,s,none,0,0⟩),.int .i64 0]))):=fun q=>by rw [← hZ]; exact ⟨fun k=>absurd q k,fun _=>rfl⟩
  have e:∀ x,((¬ T→x=.returned (.tuple #[.agg Br.none.cells,.int .i64 1]))∧(T→x=.returned (.tuple #[.agg (Br.cells ⟨3,page,s,none,0,0⟩),.int .i64 0])))=Z x:=fun x=>by rw [← hZ]
  simp only [e]
  clear hZ e
  go_enter Tryz.func7,Tryz.ntmps7
  go_upto_region 1 with fail
  obtain ⟨W0,hW0⟩:=exq ((w.alloc (.cells #[.int .i64 a,.int .i64 3,.int .i64 L,.int .i64 R,.string h,.slice ao n cp] 24)).alloc (.cells Br.none.cells 36))
  rw [hW0] at HX ⊢
  clear hW0
  obtain ⟨p0,p1,p2,p3,p4,p5,_⟩:=HX.out.1
  go_wp2_with fail
  refine (HND.out _ HX.out.2.2).mono ?_
  rintro x w1 ⟨rfl,ho⟩
  have HR1:=hide (HX.out.2.1.more ho)
  have HO1:=hide (o2 HX.out.2.2 ho)
  clear ho p0 p1 p2 p3 p4 p5 HX HND
  go_wp2_with fail
  refine (HRT.out _ HO1.out).mono ?_
  rintro x w2 ⟨⟨b,rfl,hb⟩,ho⟩
  have HR2:=hide (HR1.out.more ho)
  have HO2:=hide (o2 HO1.out ho)
  have HBB:=hide hb
  clear ho hb HR1 HO1 HRT
  cases b with
  | false=>
    have HNT:Hid (¬ T):=fun q=>by have:=HBB.out.2 q; cases this
    clear HBB HCC
    go_wp2_with (refine wpList_build_bnone rfl rfl ?_; go_frame; refine wpList_put_br rfl (.tmp 8) (.tmp 40) rfl (w.heap.size+1) rfl Br.none.cl rfl Br.none rfl HR2.out ?_; intro W9 HW9; go_frame)
    refine bodyPost_ret (results_br rfl rfl HW9.out.at_) rfl ?_
    exact ⟨HZ1.out HNT.out,HO2.out.trans HW9.out.only (fun i hi e=>by omega)⟩
  | true=>
    have HT:Hid T:=HBB.out.1 rfl
    have hN0:N=0:=by
      rcases HCC.out with q | q
      · exact absurd HT.out q
      · exact q
    subst hN0
    clear HBB HCC
    go_wp2_with (refine wpList_build_in rfl (.tmp 43) (.tmp 44) rfl page s rfl rfl ?_; go_frame; refine wpList_put_br rfl (.tmp 8) (.tmp 45) rfl (w.heap.size+1) rfl Br.none.cl rfl ⟨3,page,s,none,0,0⟩ rfl HR2.out ?_; intro W9 HW9; go_frame)
    refine bodyPost_ret (results_br rfl rfl HW9.out.at_) rfl ?_
    exact ⟨HZ2.out HT.out,HO2.out.trans HW9.out.only (fun i hi e=>by omega)⟩
def Ea2 (w w':World) (x:Ending) (p:Int) (A B:Nd) (j:Int):Prop :=
  ∃ b c ao1 cp1 ao2 cp2,x=.returned (.tuple #[.agg (Br.cells ⟨5,0,⟨#[]⟩,some ⟨b,0,none⟩,2,c⟩),.int .i64 0])∧Rg w' b 0 (imc p (A.z 0 ao1 cp1)++imc j (B.z 0 ao2 cp2))∧At w' (fun _=>True) (A.z 0 ao1 cp1)∧At w' (fun _=>True) (B.z 0 ao2 cp2)∧Only (fun _=>False) w w'
def Ea3 (w w':World) (x:Ending) (A B C:Nd) (i j p:Int):Prop :=
  ∃ b c ao1 cp1 ao2 cp2 ao3 cp3,x=.returned (.tuple #[.agg (Br.cells ⟨5,0,⟨#[]⟩,some ⟨b,0,none⟩,3,c⟩),.int .i64 0])∧Rg w' b 0 (imc i (A.z 0 ao1 cp1)++imc j (B.z 0 ao2 cp2)++imc p (C.z 0 ao3 cp3))∧At w' (fun _=>True) (A.z 0 ao1 cp1)∧At w' (fun _=>True) (B.z 0 ao2 cp2)∧At w' (fun _=>True) (C.z 0 ao3 cp3)∧Only (fun _=>False) w w'
theorem En1.ea {w w':World} {x:Ending} {p:Int} {X:Nd} {j:Nat} {e:En} {k:Int} (h:En1 w w' x p X j e k):Ea2 w w' x p (X.nl e k j) (X.nr e k) j:=by
  obtain ⟨b,ao1,cp1,ao2,cp2,rfl,h1,h2,h3,h4⟩:=h
  exact ⟨b,2,ao1,cp1,ao2,cp2,rfl,own_rg h1,h2.mono (fun _ _=>trivial),h3.mono (fun _ _=>trivial),h4⟩
theorem En2.ea {w w':World} {x:Ending} {X:Nd} {i j:Nat} {e:En} {k:Int} (h:En2 w w' x X i j e k):Ea3 w w' x (X.nl e k j) (X.nr e k) (X.over i j) i j 1:=by
  obtain ⟨b,c,ao1,cp1,ao2,cp2,ao3,cp3,rfl,h1,h2,h3,h4,h5⟩:=h
  exact ⟨b,c,ao1,cp1,ao2,cp2,ao3,cp3,rfl,own_rg h1,h2.mono (fun _ _=>trivial),h3.mono (fun _ _=>trivial),h4.mono (fun _ _=>trivial),h5⟩
theorem Nd.need_more {X:Nd} {page N:Int} {o:Option (En × Int)} (h:X.need page o=(N,0)) (hN:¬ N=0):∃ e k,o=some (e,k)∧X.std e=false∧¬ X.bad e∧512 < (X.ins e k).size∧N=(if page=1 then 2 else 1):=by
  cases o with
  | none=>simp [Nd.need] at h
  | some z=>
    obtain ⟨e,k⟩:=z
    unfold Nd.need at h
    simp only at h
    by_cases hs:X.std e=true
    · rw [if_pos hs] at h; simp at h
    · rw [if_neg hs] at h
      by_cases hw:X.wiK (some (e,k))=3
      · rw [if_pos hw] at h
        unfold Nd.wiK at hw
        simp only at hw
        by_cases hb:X.bad e
        · rw [if_pos hb] at hw; cases hw
        · rw [if_neg hb] at hw
          by_cases hz:512 < (X.ins e k).size
          · refine ⟨e,k,rfl,by simpa using hs,hb,hz,?_⟩
            injection h with h1 h2
            exact h1.symm
          · rw [if_neg hz] at hw; cases hw
      · rw [if_neg hw] at h
        injection h with h1 h2
        exact absurd h1.symm hN
theorem Nd.std_bad {X:Nd} {e:En} (h:¬ X.bad e):X.std e=false:=by
  unfold Nd.std
  exact decide_eq_false (fun q=>h (.inr (.inl q.2)))
theorem rblaid_fit (W:World) (X:Nd) (s:ByteArray) (e:En) (k:Int) (ao:Option Addr) (cp:Nat) (hG:Gd X) (hA:At W (fun _=>True) (X.z 0 ao cp)) (hs:brd X.lv s=some (e,k)) (hb:¬ X.bad e) (hz:(X.ins e k).size≤512) (hss:s.size≤140737488355328) :
    Calls Tryz.prog 16 #[.agg (X.z 0 ao cp).ar,.string s] W fun x w'=>∃ ao' cp',x=.returned (.tuple #[.agg ((X.ins e k).z 0 ao' cp').ar,.agg #[.string e.key,.int .i64 e.page,.int .i64 e.slot],.int .i64 0])∧At w' (fun q=>W.heap.size≤q) ((X.ins e k).z 0 ao' cp')∧Only (fun _=>False) W w':=by
  obtain ⟨⟨B,hS,_⟩,hF⟩:=hA
  have q:=rblaid_nd W 0 X s B cp ao (hG.nm hS) ⟨by omega,by omega⟩ hF hss
  have e1:X.ldP 0 (brd X.lv s)=(X.ins e k).pg 0:=by
    rw [hs]; unfold Nd.ldP Nd.wiP; simp only; rw [if_neg (by rw [Nd.std_bad hb]; simp),if_neg hb,if_neg (by omega)]
  have e2:X.ldE (brd X.lv s)=e:=by
    rw [hs]; unfold Nd.ldE Nd.wiK; simp only; rw [if_neg (by rw [Nd.std_bad hb]; simp),if_neg hb,if_neg (by omega)]
  have e3:X.ldK (brd X.lv s)=0:=by
    rw [hs]; unfold Nd.ldK Nd.wiK; simp only; rw [if_neg (by rw [Nd.std_bad hb]; simp),if_neg hb,if_neg (by omega)]
  rw [e1,e2,e3] at q
  refine Calls.mono q ?_
  rintro x w' ⟨B2,ao2,cp2,rfl,s2,f2,o2',n2⟩
  exact ⟨ao2,cp2,rfl,⟨⟨B2,s2,n2⟩,f2⟩,o2'⟩
theorem rblaid_long (W:World) (X:Nd) (s:ByteArray) (e:En) (k:Int) (B:Nat) (ao:Option Addr) (cp:Nat) (hP:Nm W X B ao) (hF:Fit ao X.items.length cp) (hs:brd X.lv s=some (e,k)) (hb:¬ X.bad e) (hz:512 < (X.ins e k).size) (hss:s.size≤140737488355328) :
    Calls Tryz.prog 16 #[.agg #[.int .i64 0,.int .i64 3,.int .i64 X.lv,.int .i64 X.rt,.string (hiB X.hi),.slice ao X.items.length cp],.string s] W fun x w'=>∃ ao' cp',x=.returned (.tuple #[.agg #[.int .i64 0,.int .i64 0,.int .i64 0,.int .i64 0,.string ⟨#[]⟩,.slice ao' 0 cp'],.agg #[.string e.key,.int .i64 e.page,.int .i64 e.slot],.int .i64 3])∧Only (fun _=>False) W w':=by
  have q:=rblaid_nd W 0 X s B cp ao hP ⟨by omega,by omega⟩ hF hss
  have e1:X.ldP 0 (brd X.lv s)=.none:=by
    rw [hs]; unfold Nd.ldP Nd.wiP; simp only; rw [if_neg (by rw [Nd.std_bad hb]; simp),if_neg hb,if_pos hz]
  have e2:X.ldE (brd X.lv s)=e:=by
    rw [hs]; unfold Nd.ldE Nd.wiK; simp only; rw [if_neg (by rw [Nd.std_bad hb]; simp),if_neg hb,if_pos hz]; rfl
  have e3:X.ldK (brd X.lv s)=3:=by
    rw [hs]; unfold Nd.ldK Nd.wiK; simp only; rw [if_neg (by rw [Nd.std_bad hb]; simp),if_neg hb,if_pos hz]
  rw [e1,e2,e3] at q
  refine Calls.mono q ?_
  rintro x w' ⟨B2,ao2,cp2,rfl,s2,f2,o2',n2⟩
  exact ⟨ao2,cp2,rfl,o2'⟩
theorem froot_nd (w:World) (X:Nd) (i j:Nat) (hv:X.lv+1≤255) (hi:okC i=true) (hj:okC j=true) (hb:X.bord.ok=true) :
    Calls Tryz.prog 23 #[.int .i64 ((X.lv:Int)+1),.int .i64 i,X.bord.agg,.int .i64 j] w fun x w'=>∃ ao cp,x=.returned (.tuple #[.agg ((X.over i j).z 0 ao cp).ar,.int .i64 0])∧At w' (fun k=>w.heap.size≤k) ((X.over i j).z 0 ao cp)∧Only (fun _=>False) w w':=by
  refine (froot_ok w ((X.lv:Int)+1) i j X.bord ⟨by omega,by omega⟩ hi hj hb).mono ?_
  rintro x w' ⟨B,ao,cp,rfl,hs,hf,ho,hB⟩
  have q1:itB (X.lv+1) (noE,(i:Int))=noE.encS i:=by unfold itB; rw [if_neg (by omega)]
  have q2:itB (X.lv+1) (X.bord,(j:Int))=X.bord.encS j:=by unfold itB; rw [if_neg (by omega)]
  have ei:(X.over i j).items=[noE.encS i,X.bord.encS j]:=by
    show [itB (X.lv+1) (noE,(i:Int)),itB (X.lv+1) (X.bord,(j:Int))]=_
    rw [q1,q2]
  refine ⟨ao,cp,?_,⟨⟨B,?_,?_⟩,?_⟩,ho⟩
  · show _=Ending.returned (.tuple #[.agg #[.int .i64 0,.int .i64 3,.int .i64 ((X.lv+1:Nat):Int),.int .i64 0,.string (hiB noE),.slice ao (X.over i j).items.length cp],.int .i64 0])
    rw [ei]
    rfl
  · show Strs w' B ao (X.over i j).items
    rw [ei]; exact hs
  · intro _
    exact hB (by simp)
  · show Fit ao (X.over i j).items.length cp
    rw [ei]; exact hf
section
variable {o:Oper} {a:Act} {w:World} {K:Act→World→Prop} {Q:Exit→Act→World→Prop}
theorem wp_build_split (a13:Operand) (hop:o.op=.build 36 #[(3,.const (.int .u8 5)),(13,a13)]) (ia:Option Addr) (il ic:Nat) (h13:a.eval a13=.slice ia il ic)
    (h:K (a.put o.dst (.agg (Br.cells ⟨5,0,⟨#[]⟩,ia,il,ic⟩))) w):o.wp Tryz.prog a w K Q:=by
  unfold Oper.wp execOp
  have e:(#[(3,Operand.const (.int .u8 5)),(13,a13)]:Array (Nat × Operand)).map (fun x=>(x.1,a.eval x.2))=#[(3,.int .u8 5),(13,.slice ia il ic)]:=by
    simp only [List.map_toArray,List.map_cons,List.map_nil,h13]
    rfl
  simp only [hop,e,Sem.run_bind,Sem.run_pure,Result.andThen_ok,run_build_split]
  exact h
end
end Go.Proofs.YtipkeeobmihogaaGreat
