/- Parts. -/
import Derived.Test.YtajjakljheafjaaGreatK34
set_option maxRecDepth 100000
namespace Go.Proofs.YtajjakljheafjaaGreat
open Go.RowKit
theorem PQ.of {Z:Nat→Prop} {w w1 w2:World} {p:Nat} {P:Pn} (h:Only (fun _=>False) w w1) (k:Only (fun k=>k=p) w1 w2) (hz:Z p) (hP:Pm w2 Z p P):PQ w w2 Z p P :=
  ⟨Z,fun _ _ q=>q,hP,(h.mono (fun _ _ e=>e.elim)).trans (k.mono (fun i _ e=>by rw [e]; exact hz)) (fun _ _ e=>e)⟩
theorem PQ.late {Z:Nat→Prop} {w w1 w2:World} {p:Nat} {P:Pn} (h:Only (fun _=>False) w w1) (k:PQ w1 w2 Z p P):PQ w w2 Z p P:=by
  obtain ⟨Z',h1,h2,h3⟩:=k
  exact ⟨Z',fun b hb=>h1 b (Nat.lt_of_lt_of_le hb h.size),h2,(h.mono (fun _ _ e=>e.elim)).trans h3 (fun _ _ e=>e)⟩
def Pn.jdg (P:Pn) (nw vis:Bool) (e:En) (t:Tu) (a:Option Addr) (c:Nat):Pn :=
  if P.chg=true∧nw=true then P.fl 180 else if vis=true then (if P.call=2 then Pn.over 0 true t.value none [] 0 else if P.call=5 then P.add (t.key,t.value) a c else { P with old:=e,found:=true }) else P
structure Jg (w W:World) (V:Vv) (e:En) (t:Tu):Prop where
  vb:Cb W w.heap.size V.ar.toList
  eb:Cb W (w.heap.size+1) [.string e.key,.int .i64 e.page,.int .i64 e.slot]
  tb:Cb W (w.heap.size+1+1) [.int .i64 t.xmin,.int .i64 t.xmax,.bool t.frozen,.string t.key,.string t.value]
  only:Only (fun _=>False) w W
theorem Jg.new (w:World) (V:Vv) (e:En) (t:Tu):Jg w (((w.alloc (.cells V.ar 42)).alloc (.cells #[.string e.key,.int .i64 e.page,.int .i64 e.slot] 89)).alloc (.cells #[.int .i64 t.xmin,.int .i64 t.xmax,.bool t.frozen,.string t.key,.string t.value] 78)) V e t:=by
  have h1:=Cb.new w V.ar.toList 42
  have h2:=Cb.new (w.alloc (.cells V.ar 42)) [.string e.key,.int .i64 e.page,.int .i64 e.slot] 89
  have h3:=Cb.new ((w.alloc (.cells V.ar 42)).alloc (.cells #[.string e.key,.int .i64 e.page,.int .i64 e.slot] 89)) [.int .i64 t.xmin,.int .i64 t.xmax,.bool t.frozen,.string t.key,.string t.value] 78
  rw [World.size_alloc] at h2
  rw [World.size_alloc,World.size_alloc] at h3
  exact ⟨(h1.more (onlyA _ _)).more (onlyA _ _),h2.more (onlyA _ _),h3,o2 (o2 (onlyA _ _) (onlyA _ _)) (onlyA _ _)⟩
theorem Jg.more {w W W':World} {V:Vv} {e:En} {t:Tu} (h:Jg w W V e t) (ho:Only (fun _=>False) W W'):Jg w W' V e t:=⟨h.vb.more ho,h.eb.more ho,h.tb.more ho,o2 h.only ho⟩
set_option maxHeartbeats 1600000 in
theorem judge_any (w:World) (Z:Nat→Prop) (p:Nat) (P:Pn) (h:Pm w Z p P) (hl:P.rows.length≤1000) (V:Vv) (e:En) (t:Tu) (nw vis:Bool)
    (hN:P.chg=true→∀ W,Only (fun _=>False) w W→Calls Tryz.prog 180 #[.agg V.ar,.agg #[.int .i64 t.xmin,.int .i64 t.xmax,.bool t.frozen,.string t.key,.string t.value]] W fun x w'=>x=.returned (.bool nw)∧Only (fun _=>False) W w')
    (hV:∀ W,Only (fun _=>False) w W→Calls Tryz.prog 181 #[.agg V.ar,.agg #[.int .i64 t.xmin,.int .i64 t.xmax,.bool t.frozen,.string t.key,.string t.value]] W fun x w'=>x=.returned (.bool vis)∧Only (fun _=>False) W w') :
    Calls Tryz.prog 163 #[.pointer (some ⟨p,0,none⟩),.agg V.ar,.agg #[.string e.key,.int .i64 e.page,.int .i64 e.slot],.agg #[.int .i64 t.xmin,.int .i64 t.xmax,.bool t.frozen,.string t.key,.string t.value]] w fun x w'=>x=.returned (.tuple #[])∧∃ a c,PQ w w' Z p (P.jdg nw vis e t a c):=by
  have HJ:=hide (Jg.new w V e t)
  have HH:=hide (h.more HJ.out.only)
  have HN:=hide hN
  have HV:=hide hV
  have HL:=hide hl
  have HZP:Hid (Z p):=h.zp
  clear h hN hV hl
  unfold Vv.ar at *
  have HCQ:Hid (P.chg=true→¬ P.call=2∧¬ P.call=5):=fun q=>by unfold Pn.chg at q; simp at q; omega
  obtain ⟨W0,hW0⟩:=exq (((w.alloc (.cells #[.int .i64 V.m,.int .i64 V.nx,.slice V.aA V.nA V.cA,.int .i64 V.ow,.slice V.aR V.nR V.cR,.int .i64 V.l,.int .i64 V.k,.int .i64 V.v,.int .i64 V.r,.string V.h,.slice V.aP V.nP V.cP] 42)).alloc (.cells #[.string e.key,.int .i64 e.page,.int .i64 e.slot] 89)).alloc (.cells #[.int .i64 t.xmin,.int .i64 t.xmax,.bool t.frozen,.string t.key,.string t.value] 78))
  rw [hW0] at HJ HH
  have HW0:=hide hW0
  clear hW0
  by_cases hc:P.chg=true
  · have HC:Hid (P.chg=true):=hc
    have HC2:Hid (¬ P.call=2):=(HCQ.out hc).1
    have HC5:Hid (¬ P.call=5):=(HCQ.out hc).2
    clear hc HCQ
    cases nw
    · cases vis
      · go_enter Tryz.func163,Tryz.ntmps163
        go_upto_region 2 with fail
        rw [HW0.out]
        clear HW0
        go_wp2_with fail
        refine (changes_any _ Z p P HH.out).mono ?_
        rintro x w1 ⟨rfl,h1⟩
        obtain rfl:=h1.symm
        rw [HC.out]
        have v0:=HJ.out.vb.c 0 _ rfl
        have v1:=HJ.out.vb.c 1 _ rfl
        have v2:=HJ.out.vb.c 2 _ rfl
        have v3:=HJ.out.vb.c 3 _ rfl
        have v4:=HJ.out.vb.c 4 _ rfl
        have v5:=HJ.out.vb.c 5 _ rfl
        have v6:=HJ.out.vb.c 6 _ rfl
        have v7:=HJ.out.vb.c 7 _ rfl
        have v8:=HJ.out.vb.c 8 _ rfl
        have v9:=HJ.out.vb.c 9 _ rfl
        have v10:=HJ.out.vb.c 10 _ rfl
        have t0:=HJ.out.tb.c 0 _ rfl
        have t1:=HJ.out.tb.c 1 _ rfl
        have t2:=HJ.out.tb.c 2 _ rfl
        have t3:=HJ.out.tb.c 3 _ rfl
        have t4:=HJ.out.tb.c 4 _ rfl
        go_wp2_with fail
        refine (HN.out HC.out _ HJ.out.only).mono ?_
        rintro x w2 ⟨rfl,ho⟩
        have HJ2:=hide (HJ.out.more ho)
        have HH2:=hide (HH.out.more ho)
        clear ho HJ HH v0 v1 v2 v3 v4 v5 v6 v7 v8 v9 v10 t0 t1 t2 t3 t4
        have v0:=HJ2.out.vb.c 0 _ rfl
        have v1:=HJ2.out.vb.c 1 _ rfl
        have v2:=HJ2.out.vb.c 2 _ rfl
        have v3:=HJ2.out.vb.c 3 _ rfl
        have v4:=HJ2.out.vb.c 4 _ rfl
        have v5:=HJ2.out.vb.c 5 _ rfl
        have v6:=HJ2.out.vb.c 6 _ rfl
        have v7:=HJ2.out.vb.c 7 _ rfl
        have v8:=HJ2.out.vb.c 8 _ rfl
        have v9:=HJ2.out.vb.c 9 _ rfl
        have v10:=HJ2.out.vb.c 10 _ rfl
        have t0:=HJ2.out.tb.c 0 _ rfl
        have t1:=HJ2.out.tb.c 1 _ rfl
        have t2:=HJ2.out.tb.c 2 _ rfl
        have t3:=HJ2.out.tb.c 3 _ rfl
        have t4:=HJ2.out.tb.c 4 _ rfl
        go_wp2_with fail
        refine (HV.out _ HJ2.out.only).mono ?_
        rintro x w3 ⟨rfl,ho⟩
        have HJ3:=hide (HJ2.out.more ho)
        have HH3:=hide (HH2.out.more ho)
        clear ho HJ2 HH2 v0 v1 v2 v3 v4 v5 v6 v7 v8 v9 v10 t0 t1 t2 t3 t4
        go_wp2_with fail
        refine bodyPost_end (results_none rfl _ _ _) rfl ?_
        exact ⟨rfl,none,0,by unfold Pn.jdg; rw [if_neg (by rw [HC.out]; simp),if_neg (by simp)]; exact PQ.of HJ3.out.only (Only.refl _ _) HZP.out HH3.out⟩
      · go_enter Tryz.func163,Tryz.ntmps163
        go_upto_region 2 with fail
        rw [HW0.out]
        clear HW0
        go_wp2_with fail
        refine (changes_any _ Z p P HH.out).mono ?_
        rintro x w1 ⟨rfl,h1⟩
        obtain rfl:=h1.symm
        rw [HC.out]
        have v0:=HJ.out.vb.c 0 _ rfl
        have v1:=HJ.out.vb.c 1 _ rfl
        have v2:=HJ.out.vb.c 2 _ rfl
        have v3:=HJ.out.vb.c 3 _ rfl
        have v4:=HJ.out.vb.c 4 _ rfl
        have v5:=HJ.out.vb.c 5 _ rfl
        have v6:=HJ.out.vb.c 6 _ rfl
        have v7:=HJ.out.vb.c 7 _ rfl
        have v8:=HJ.out.vb.c 8 _ rfl
        have v9:=HJ.out.vb.c 9 _ rfl
        have v10:=HJ.out.vb.c 10 _ rfl
        have t0:=HJ.out.tb.c 0 _ rfl
        have t1:=HJ.out.tb.c 1 _ rfl
        have t2:=HJ.out.tb.c 2 _ rfl
        have t3:=HJ.out.tb.c 3 _ rfl
        have t4:=HJ.out.tb.c 4 _ rfl
        go_wp2_with fail
        refine (HN.out HC.out _ HJ.out.only).mono ?_
        rintro x w2 ⟨rfl,ho⟩
        have HJ2:=hide (HJ.out.more ho)
        have HH2:=hide (HH.out.more ho)
        clear ho HJ HH v0 v1 v2 v3 v4 v5 v6 v7 v8 v9 v10 t0 t1 t2 t3 t4
        have v0:=HJ2.out.vb.c 0 _ rfl
        have v1:=HJ2.out.vb.c 1 _ rfl
        have v2:=HJ2.out.vb.c 2 _ rfl
        have v3:=HJ2.out.vb.c 3 _ rfl
        have v4:=HJ2.out.vb.c 4 _ rfl
        have v5:=HJ2.out.vb.c 5 _ rfl
        have v6:=HJ2.out.vb.c 6 _ rfl
        have v7:=HJ2.out.vb.c 7 _ rfl
        have v8:=HJ2.out.vb.c 8 _ rfl
        have v9:=HJ2.out.vb.c 9 _ rfl
        have v10:=HJ2.out.vb.c 10 _ rfl
        have t0:=HJ2.out.tb.c 0 _ rfl
        have t1:=HJ2.out.tb.c 1 _ rfl
        have t2:=HJ2.out.tb.c 2 _ rfl
        have t3:=HJ2.out.tb.c 3 _ rfl
        have t4:=HJ2.out.tb.c 4 _ rfl
        go_wp2_with fail
        refine (HV.out _ HJ2.out.only).mono ?_
        rintro x w3 ⟨rfl,ho⟩
        have HJ3:=hide (HJ2.out.more ho)
        have HH3:=hide (HH2.out.more ho)
        clear ho HJ2 HH2 v0 v1 v2 v3 v4 v5 v6 v7 v8 v9 v10 t0 t1 t2 t3 t4
        have c0:=HH3.out.cb.c 0 _ rfl
        have c20:=HH3.out.cb.c 20 _ rfl
        have c21:=HH3.out.cb.c 21 _ rfl
        have c22:=HH3.out.cb.c 22 _ rfl
        have c25:=HH3.out.cb.c 25 _ rfl
        have f20:=HH3.out.cb.f 20
        have f21:=HH3.out.cb.f 21
        have f22:=HH3.out.cb.f 22
        have f25:=HH3.out.cb.f 25
        have e0:=HJ3.out.eb.c 0 _ rfl
        have e1:=HJ3.out.eb.c 1 _ rfl
        have e2:=HJ3.out.eb.c 2 _ rfl
        have hb2:(P.call == 2)=false:=by simpa using HC2.out
        have hb5:(P.call == 5)=false:=by simpa using HC5.out
        go_wp2_with fail
        refine bodyPost_end (results_none rfl _ _ _) rfl ?_
        have HP:=((((Only.put w3 p 20 (.string e.key)).puts 21 (.int .i64 e.page)).puts 22 (.int .i64 e.slot)).puts 25 (.bool true))
        refine ⟨rfl,none,0,?_⟩
        unfold Pn.jdg
        rw [if_neg (by rw [HC.out]; simp),if_pos rfl,if_neg HC2.out,if_neg HC5.out]
        exact PQ.of HJ3.out.only HP HZP.out (HH3.out.mod HP ((((HH3.out.cb.set 20 _).set 21 _).set 22 _).set 25 _) ⟨rfl,rfl,rfl⟩ ⟨rfl,rfl⟩)
    · go_enter Tryz.func163,Tryz.ntmps163
      go_upto_region 2 with fail
      rw [HW0.out]
      clear HW0
      go_wp2_with fail
      refine (changes_any _ Z p P HH.out).mono ?_
      rintro x w1 ⟨rfl,h1⟩
      obtain rfl:=h1.symm
      rw [HC.out]
      have v0:=HJ.out.vb.c 0 _ rfl
      have v1:=HJ.out.vb.c 1 _ rfl
      have v2:=HJ.out.vb.c 2 _ rfl
      have v3:=HJ.out.vb.c 3 _ rfl
      have v4:=HJ.out.vb.c 4 _ rfl
      have v5:=HJ.out.vb.c 5 _ rfl
      have v6:=HJ.out.vb.c 6 _ rfl
      have v7:=HJ.out.vb.c 7 _ rfl
      have v8:=HJ.out.vb.c 8 _ rfl
      have v9:=HJ.out.vb.c 9 _ rfl
      have v10:=HJ.out.vb.c 10 _ rfl
      have t0:=HJ.out.tb.c 0 _ rfl
      have t1:=HJ.out.tb.c 1 _ rfl
      have t2:=HJ.out.tb.c 2 _ rfl
      have t3:=HJ.out.tb.c 3 _ rfl
      have t4:=HJ.out.tb.c 4 _ rfl
      go_wp2_with fail
      refine (HN.out HC.out _ HJ.out.only).mono ?_
      rintro x w2 ⟨rfl,ho⟩
      have HJ2:=hide (HJ.out.more ho)
      have HH2:=hide (HH.out.more ho)
      clear ho HJ HH v0 v1 v2 v3 v4 v5 v6 v7 v8 v9 v10 t0 t1 t2 t3 t4
      go_wp2_with fail
      refine (Fail_any _ Z p P HH2.out 180).mono ?_
      rintro x w3 ⟨rfl,hp,ho⟩
      have HP3:=hide hp
      have HO3:=hide ho
      clear hp ho
      go_wp2_with fail
      refine bodyPost_end (results_none rfl _ _ _) rfl ?_
      exact ⟨rfl,none,0,by unfold Pn.jdg; rw [if_pos ⟨HC.out,rfl⟩]; exact PQ.of HJ2.out.only HO3.out HZP.out HP3.out⟩
  · have HC:Hid (P.chg=false):=by unfold Hid; simpa using hc
    clear hc HCQ
    cases vis
    · go_enter Tryz.func163,Tryz.ntmps163
      go_upto_region 2 with fail
      rw [HW0.out]
      clear HW0
      go_wp2_with fail
      refine (changes_any _ Z p P HH.out).mono ?_
      rintro x w1 ⟨rfl,h1⟩
      obtain rfl:=h1.symm
      rw [HC.out]
      have HJ2:=hide HJ.out
      have HH2:=hide HH.out
      clear HJ HH
      have v0:=HJ2.out.vb.c 0 _ rfl
      have v1:=HJ2.out.vb.c 1 _ rfl
      have v2:=HJ2.out.vb.c 2 _ rfl
      have v3:=HJ2.out.vb.c 3 _ rfl
      have v4:=HJ2.out.vb.c 4 _ rfl
      have v5:=HJ2.out.vb.c 5 _ rfl
      have v6:=HJ2.out.vb.c 6 _ rfl
      have v7:=HJ2.out.vb.c 7 _ rfl
      have v8:=HJ2.out.vb.c 8 _ rfl
      have v9:=HJ2.out.vb.c 9 _ rfl
      have v10:=HJ2.out.vb.c 10 _ rfl
      have t0:=HJ2.out.tb.c 0 _ rfl
      have t1:=HJ2.out.tb.c 1 _ rfl
      have t2:=HJ2.out.tb.c 2 _ rfl
      have t3:=HJ2.out.tb.c 3 _ rfl
      have t4:=HJ2.out.tb.c 4 _ rfl
      go_wp2_with fail
      refine (HV.out _ HJ2.out.only).mono ?_
      rintro x w3 ⟨rfl,ho⟩
      have HJ3:=hide (HJ2.out.more ho)
      have HH3:=hide (HH2.out.more ho)
      clear ho HJ2 HH2 v0 v1 v2 v3 v4 v5 v6 v7 v8 v9 v10 t0 t1 t2 t3 t4
      go_wp2_with fail
      refine bodyPost_end (results_none rfl _ _ _) rfl ?_
      exact ⟨rfl,none,0,by unfold Pn.jdg; rw [if_neg (by rw [HC.out]; simp),if_neg (by simp)]; exact PQ.of HJ3.out.only (Only.refl _ _) HZP.out HH3.out⟩
    · by_cases hc2:P.call=2
      · have HC2:=hide hc2
        have hb2:(P.call == 2)=true:=by simp [hc2]
        clear hc2
        go_enter Tryz.func163,Tryz.ntmps163
        go_upto_region 2 with fail
        rw [HW0.out]
        clear HW0
        go_wp2_with fail
        refine (changes_any _ Z p P HH.out).mono ?_
        rintro x w1 ⟨rfl,h1⟩
        obtain rfl:=h1.symm
        rw [HC.out]
        have HJ2:=hide HJ.out
        have HH2:=hide HH.out
        clear HJ HH
        have v0:=HJ2.out.vb.c 0 _ rfl
        have v1:=HJ2.out.vb.c 1 _ rfl
        have v2:=HJ2.out.vb.c 2 _ rfl
        have v3:=HJ2.out.vb.c 3 _ rfl
        have v4:=HJ2.out.vb.c 4 _ rfl
        have v5:=HJ2.out.vb.c 5 _ rfl
        have v6:=HJ2.out.vb.c 6 _ rfl
        have v7:=HJ2.out.vb.c 7 _ rfl
        have v8:=HJ2.out.vb.c 8 _ rfl
        have v9:=HJ2.out.vb.c 9 _ rfl
        have v10:=HJ2.out.vb.c 10 _ rfl
        have t0:=HJ2.out.tb.c 0 _ rfl
        have t1:=HJ2.out.tb.c 1 _ rfl
        have t2:=HJ2.out.tb.c 2 _ rfl
        have t3:=HJ2.out.tb.c 3 _ rfl
        have t4:=HJ2.out.tb.c 4 _ rfl
        go_wp2_with fail
        refine (HV.out _ HJ2.out.only).mono ?_
        rintro x w3 ⟨rfl,ho⟩
        have HJ3:=hide (HJ2.out.more ho)
        have HH3:=hide (HH2.out.more ho)
        clear ho HJ2 HH2 v0 v1 v2 v3 v4 v5 v6 v7 v8 v9 v10 t0 t1 t2 t3 t4
        have c0:=HH3.out.cb.c 0 _ rfl
        have t4:=HJ3.out.tb.c 4 _ rfl
        have HE:=hide (end_any w3 Z p P HH3.out 0 true t.value none [] 0 (RowsAt.none _) (fun _ q=>by cases q))
        go_wp2_with fail
        refine HE.out.mono ?_
        rintro x w4 ⟨rfl,hp,ho⟩
        have HP3:=hide hp
        have HO3:=hide ho
        clear hp ho
        go_wp2_with fail
        refine bodyPost_end (results_none rfl _ _ _) rfl ?_
        exact ⟨rfl,none,0,by unfold Pn.jdg; rw [if_neg (by rw [HC.out]; simp),if_pos rfl,if_pos HC2.out]; exact PQ.of HJ3.out.only HO3.out HZP.out HP3.out⟩
      · have HC2:=hide hc2
        clear hc2
        by_cases hc5:P.call=5
        · have HC5:=hide hc5
          have hb2:(P.call == 2)=false:=by simpa using HC2.out
          have hb5:(P.call == 5)=true:=by simp [hc5]
          clear hc5
          go_enter Tryz.func163,Tryz.ntmps163
          go_upto_region 2 with fail
          rw [HW0.out]
          clear HW0
          go_wp2_with fail
          refine (changes_any _ Z p P HH.out).mono ?_
          rintro x w1 ⟨rfl,h1⟩
          obtain rfl:=h1.symm
          rw [HC.out]
          have HJ2:=hide HJ.out
          have HH2:=hide HH.out
          clear HJ HH
          have v0:=HJ2.out.vb.c 0 _ rfl
          have v1:=HJ2.out.vb.c 1 _ rfl
          have v2:=HJ2.out.vb.c 2 _ rfl
          have v3:=HJ2.out.vb.c 3 _ rfl
          have v4:=HJ2.out.vb.c 4 _ rfl
          have v5:=HJ2.out.vb.c 5 _ rfl
          have v6:=HJ2.out.vb.c 6 _ rfl
          have v7:=HJ2.out.vb.c 7 _ rfl
          have v8:=HJ2.out.vb.c 8 _ rfl
          have v9:=HJ2.out.vb.c 9 _ rfl
          have v10:=HJ2.out.vb.c 10 _ rfl
          have t0:=HJ2.out.tb.c 0 _ rfl
          have t1:=HJ2.out.tb.c 1 _ rfl
          have t2:=HJ2.out.tb.c 2 _ rfl
          have t3:=HJ2.out.tb.c 3 _ rfl
          have t4:=HJ2.out.tb.c 4 _ rfl
          go_wp2_with fail
          refine (HV.out _ HJ2.out.only).mono ?_
          rintro x w3 ⟨rfl,ho⟩
          have HJ3:=hide (HJ2.out.more ho)
          have HH3:=hide (HH2.out.more ho)
          clear ho HJ2 HH2 v0 v1 v2 v3 v4 v5 v6 v7 v8 v9 v10 t0 t1 t2 t3 t4
          have c0:=HH3.out.cb.c 0 _ rfl
          have t3:=HJ3.out.tb.c 3 _ rfl
          have t4:=HJ3.out.tb.c 4 _ rfl
          have HE:=hide (addRow_any w3 Z p P HH3.out HL.out t.key t.value)
          go_wp2_with fail
          refine HE.out.mono ?_
          rintro x w4 ⟨rfl,a,c,hp⟩
          have HP3:=hide hp
          clear hp
          go_wp2_with fail
          refine bodyPost_end (results_none rfl _ _ _) rfl ?_
          exact ⟨rfl,a,c,by unfold Pn.jdg; rw [if_neg (by rw [HC.out]; simp),if_pos rfl,if_neg HC2.out,if_pos HC5.out]; exact PQ.late HJ3.out.only HP3.out⟩
        · have HC5:=hide hc5
          clear hc5
          go_enter Tryz.func163,Tryz.ntmps163
          go_upto_region 2 with fail
          rw [HW0.out]
          clear HW0
          go_wp2_with fail
          refine (changes_any _ Z p P HH.out).mono ?_
          rintro x w1 ⟨rfl,h1⟩
          obtain rfl:=h1.symm
          rw [HC.out]
          have HJ2:=hide HJ.out
          have HH2:=hide HH.out
          clear HJ HH
          have v0:=HJ2.out.vb.c 0 _ rfl
          have v1:=HJ2.out.vb.c 1 _ rfl
          have v2:=HJ2.out.vb.c 2 _ rfl
          have v3:=HJ2.out.vb.c 3 _ rfl
          have v4:=HJ2.out.vb.c 4 _ rfl
          have v5:=HJ2.out.vb.c 5 _ rfl
          have v6:=HJ2.out.vb.c 6 _ rfl
          have v7:=HJ2.out.vb.c 7 _ rfl
          have v8:=HJ2.out.vb.c 8 _ rfl
          have v9:=HJ2.out.vb.c 9 _ rfl
          have v10:=HJ2.out.vb.c 10 _ rfl
          have t0:=HJ2.out.tb.c 0 _ rfl
          have t1:=HJ2.out.tb.c 1 _ rfl
          have t2:=HJ2.out.tb.c 2 _ rfl
          have t3:=HJ2.out.tb.c 3 _ rfl
          have t4:=HJ2.out.tb.c 4 _ rfl
          go_wp2_with fail
          refine (HV.out _ HJ2.out.only).mono ?_
          rintro x w3 ⟨rfl,ho⟩
          have HJ3:=hide (HJ2.out.more ho)
          have HH3:=hide (HH2.out.more ho)
          clear ho HJ2 HH2 v0 v1 v2 v3 v4 v5 v6 v7 v8 v9 v10 t0 t1 t2 t3 t4
          have c0:=HH3.out.cb.c 0 _ rfl
          have c20:=HH3.out.cb.c 20 _ rfl
          have c21:=HH3.out.cb.c 21 _ rfl
          have c22:=HH3.out.cb.c 22 _ rfl
          have c25:=HH3.out.cb.c 25 _ rfl
          have f20:=HH3.out.cb.f 20
          have f21:=HH3.out.cb.f 21
          have f22:=HH3.out.cb.f 22
          have f25:=HH3.out.cb.f 25
          have e0:=HJ3.out.eb.c 0 _ rfl
          have e1:=HJ3.out.eb.c 1 _ rfl
          have e2:=HJ3.out.eb.c 2 _ rfl
          have hb2:(P.call == 2)=false:=by simpa using HC2.out
          have hb5:(P.call == 5)=false:=by simpa using HC5.out
          go_wp2_with fail
          refine bodyPost_end (results_none rfl _ _ _) rfl ?_
          have HP:=((((Only.put w3 p 20 (.string e.key)).puts 21 (.int .i64 e.page)).puts 22 (.int .i64 e.slot)).puts 25 (.bool true))
          refine ⟨rfl,none,0,?_⟩
          unfold Pn.jdg
          rw [if_neg (by rw [HC.out]; simp),if_pos rfl,if_neg HC2.out,if_neg HC5.out]
          exact PQ.of HJ3.out.only HP HZP.out (HH3.out.mod HP ((((HH3.out.cb.set 20 _).set 21 _).set 22 _).set 25 _) ⟨rfl,rfl,rfl⟩ ⟨rfl,rfl⟩)
end Go.Proofs.YtajjakljheafjaaGreat
