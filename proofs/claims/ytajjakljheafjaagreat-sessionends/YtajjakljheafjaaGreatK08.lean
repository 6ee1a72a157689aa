/- Parts. -/
import Derived.Test.YtajjakljheafjaaGreatK06
import Derived.Deep.DeepCutAuto
import Derived.Test.YtajjakljheafjaaGreatK07
import Derived.Deep.MidRow
import Derived.Laws.Tables
set_option maxRecDepth 100000
namespace Go.Proofs.YtajjakljheafjaaGreat
open Go.RowKit
structure Ev (w:World) (b:Nat) (e:En):Prop where
  c0:w.cell? ⟨b,0,none⟩=some (.string e.key)
  c1:w.cell? ⟨b,1,none⟩=some (.int .i64 e.page)
  c2:w.cell? ⟨b,2,none⟩=some (.int .i64 e.slot)
  f0:w.frozen? ⟨b,0,none⟩=false
  f1:w.frozen? ⟨b,1,none⟩=false
  f2:w.frozen? ⟨b,2,none⟩=false
  lt:b < w.heap.size
theorem Ev.kept {S:Nat→Prop} {w w':World} {b:Nat} {e:En} (h:Ev w b e) (ho:Only S w w') (hS:¬ S b):Ev w' b e :=
  ⟨(ho.cell (p:=⟨b,0,none⟩) h.lt hS).trans h.c0,(ho.cell (p:=⟨b,1,none⟩) h.lt hS).trans h.c1,(ho.cell (p:=⟨b,2,none⟩) h.lt hS).trans h.c2,(ho.frozen (p:=⟨b,0,none⟩) h.lt hS).trans h.f0,(ho.frozen (p:=⟨b,1,none⟩) h.lt hS).trans h.f1,(ho.frozen (p:=⟨b,2,none⟩) h.lt hS).trans h.f2,Nat.lt_of_lt_of_le h.lt ho.size⟩
theorem Ev.more {w w':World} {b:Nat} {e:En} (h:Ev w b e) (ho:Only (fun _=>False) w w'):Ev w' b e:=h.kept ho (fun h=>h)
theorem Ev.new (w:World) (e:En):Ev (w.alloc (.cells #[.string e.key,.int .i64 e.page,.int .i64 e.slot] 89)) w.heap.size e:=⟨by simp,by simp,by simp,by simp,by simp,by simp,by simp⟩
theorem Ev.zero (w:World):Ev (w.alloc (.cells #[.string ⟨#[]⟩,.int .i64 0,.int .i64 0] 89)) w.heap.size noE:=Ev.new w noE
theorem othN (W:World) (b i j:Nat) (v x:Value) (hij:i≠j) (hx:W.cell? ⟨b,j,none⟩=some x):(W.setCell ⟨b,i,none⟩ v).cell? ⟨b,j,none⟩=some x :=
  (World.cell?_setCell_other _ _ _ _ (by intro e; injection e; omega)).trans hx
theorem Ev.s0 {w:World} {b:Nat} {e:En} (h:Ev w b e) (x:ByteArray):Ev (w.setCell ⟨b,0,none⟩ (.string x)) b ⟨x,e.page,e.slot⟩ :=
  ⟨World.cell?_setCell_same _ _ _ h.c0,othN _ _ _ _ _ _ (by omega) h.c1,othN _ _ _ _ _ _ (by omega) h.c2,by simpa using h.f0,by simpa using h.f1,by simpa using h.f2,by simpa using h.lt⟩
theorem Ev.s1 {w:World} {b:Nat} {e:En} (h:Ev w b e) (x:Int):Ev (w.setCell ⟨b,1,none⟩ (.int .i64 x)) b ⟨e.key,x,e.slot⟩ :=
  ⟨othN _ _ _ _ _ _ (by omega) h.c0,World.cell?_setCell_same _ _ _ h.c1,othN _ _ _ _ _ _ (by omega) h.c2,by simpa using h.f0,by simpa using h.f1,by simpa using h.f2,by simpa using h.lt⟩
theorem Ev.s2 {w:World} {b:Nat} {e:En} (h:Ev w b e) (x:Int):Ev (w.setCell ⟨b,2,none⟩ (.int .i64 x)) b ⟨e.key,e.page,x⟩ :=
  ⟨othN _ _ _ _ _ _ (by omega) h.c0,othN _ _ _ _ _ _ (by omega) h.c1,World.cell?_setCell_same _ _ _ h.c2,by simpa using h.f0,by simpa using h.f1,by simpa using h.f2,by simpa using h.lt⟩
theorem Ev.all {w:World} {b:Nat} {u:En} (h:Ev w b u) (e:En):Ev (((w.setCell ⟨b,0,none⟩ (.string e.key)).setCell ⟨b,1,none⟩ (.int .i64 e.page)).setCell ⟨b,2,none⟩ (.int .i64 e.slot)) b e:=((h.s0 e.key).s1 e.page).s2 e.slot
theorem Only.three (w:World) (b:Nat) (v0 v1 v2:Value):Only (fun k=>k=b) w (((w.setCell ⟨b,0,none⟩ v0).setCell ⟨b,1,none⟩ v1).setCell ⟨b,2,none⟩ v2):=by
  have st:∀ (W:World) (i:Nat) (v:Value),Only (fun k=>k=b) W (W.setCell ⟨b,i,none⟩ v):=fun W i v=>Only.setCell W ⟨b,i,none⟩ v rfl
  exact ((st _ 0 _).trans (st _ 1 _) (fun _ _ h=>h)).trans (st _ 2 _) (fun _ _ h=>h)
theorem load_ev {w:World} {b:Nat} {e:En} (h:Ev w b e):(loadVar 89 ⟨b,0,none⟩).run Tryz.prog w=.ok e.agg w:=by
  have c0:=h.c0
  have c1:=h.c1
  have c2:=h.c2
  simp [loadVar,go_sem,c0,c1,c2,En.agg]
theorem results_ev1 {fn:Func} {p:Tmp} (h:fn.results=#[.cell p 89]) {tmps:Array Value} {w:World} {b:Nat} {e:En} (hp:tmps.getD p undef=.pointer (some ⟨b,0,none⟩)) (hP:Ev w b e) :
    (results fn tmps).run Tryz.prog w=.ok e.agg w:=by
  have e:(asAddr (.pointer (some ⟨b,0,none⟩))).run Tryz.prog w=.ok ⟨b,0,none⟩ w:=rfl
  have hp':tmps[p]?.getD undef=.pointer (some ⟨b,0,none⟩):=by simpa using hp
  simp only [results,h]
  simp [Sem.run_bind,Result.andThen,hp',e,load_ev hP]
theorem results_ev {fn:Func} {p u:Tmp} (h:fn.results=#[.cell p 89,.tmp u]) {tmps:Array Value} {w:World} {b:Nat} {t:En} (hp:tmps.getD p undef=.pointer (some ⟨b,0,none⟩)) (hP:Ev w b t) :
    (results fn tmps).run Tryz.prog w=.ok (.tuple #[t.agg,tmps.getD u undef]) w:=by
  have e:(asAddr (.pointer (some ⟨b,0,none⟩))).run Tryz.prog w=.ok ⟨b,0,none⟩ w:=rfl
  rw [results_cell_tmp h,hp,e]
  simp only [Result.andThen,load_ev hP]
theorem results_ev3 {fn:Func} {p u y:Tmp} (h:fn.results=#[.cell p 89,.tmp u,.tmp y]) {tmps:Array Value} {w:World} {b:Nat} {t:En} (hp:tmps.getD p undef=.pointer (some ⟨b,0,none⟩)) (hP:Ev w b t) :
    (results fn tmps).run Tryz.prog w=.ok (.tuple #[t.agg,tmps.getD u undef,tmps.getD y undef]) w:=by
  have e:(asAddr (.pointer (some ⟨b,0,none⟩))).run Tryz.prog w=.ok ⟨b,0,none⟩ w:=rfl
  have hp':tmps[p]?.getD undef=.pointer (some ⟨b,0,none⟩):=by simpa using hp
  simp only [results,h]
  simp [Sem.run_bind,Result.andThen,hp',e,load_ev hP]
theorem rtext_stN (w:World) (r:Nat) (s:ByteArray) (z:Int) (hR:Rd w r s 0) :
    Calls Tryz.prog 167 #[.pointer (some ⟨r,0,none⟩),.int .i64 z] w fun e w'=>e=.returned (.string (str (rdT z (bl s)).1))∧Rd w' r (str (rdT z (bl s)).2.1) (rdT z (bl s)).2.2∧Only (fun k=>k=r) w w':=rtext_any w r s z hR
theorem rnum_st (w:World) (r:Nat) (l:List UInt8) (x z:Int) (hR:Rd w r (str l) x) :
    Calls Tryz.prog 144 #[.pointer (some ⟨r,0,none⟩),.int .i64 z] w fun e w'=>e=.returned (.int .i64 (rnS (l,x) z).1)∧Rd w' r (str (rnS (l,x) z).2.1) (rnS (l,x) z).2.2∧Only (fun k=>k=r) w w':=by
  unfold rnS
  by_cases hx:x=0
  · subst hx
    rw [if_pos rfl]
    exact rnum_any w r (str l) z hR
  · rw [if_neg hx]
    refine (rnum_err w r x z hR.c1 (by simpa using hx)).mono ?_
    rintro e w' ⟨he,rfl⟩
    exact ⟨he,hR,Only.refl _ _⟩
theorem rend_stN (w:World) (r:Nat) (l:List UInt8) (x:Int) (hR:Rd w r (str l) x) :
    Calls Tryz.prog 143 #[.pointer (some ⟨r,0,none⟩)] w fun e w'=>e=.returned (.int .i64 (endE l x))∧w'=w:=by
  unfold endE
  by_cases hx:x=0
  · subst hx
    rw [if_pos rfl]
    have h:=rend_ok w r (str l) hR.c1 hR.c0
    rw [str_size] at h
    exact h
  · rw [if_neg hx]
    exact rend_err w r x hR.c1 (by simpa using hx)
structure Tk (w W:World) (r:Nat) (l:List UInt8) (x:Int) (e:En):Prop where
  res:Ev W w.heap.size noE
  ent:Ev W (w.heap.size+1) e
  rd:Rd W r (str l) x
  only:Only (fun k=>k=r) w W
  lt:r < w.heap.size
theorem Tk.set {w W:World} {r:Nat} {l:List UInt8} {x:Int} {e e':En} (h:Tk w W r l x e) (i:Nat) (v:Value) (ht:Ev (W.setCell ⟨w.heap.size+1,i,none⟩ v) (w.heap.size+1) e'):Tk w (W.setCell ⟨w.heap.size+1,i,none⟩ v) r l x e':=by
  have ho:Only (fun k=>k=w.heap.size+1) W (W.setCell ⟨w.heap.size+1,i,none⟩ v):=Only.setCell W _ v rfl
  have:=h.lt
  exact ⟨h.res.kept ho (by omega),ht,h.rd.kept ho (by omega),h.only.trans ho (fun j hj e=>by omega),h.lt⟩
theorem Tk.take {w W W':World} {r:Nat} {l l':List UInt8} {x x':Int} {e:En} (h:Tk w W r l x e) (hr:Rd W' r (str l') x') (ho:Only (fun k=>k=r) W W'):Tk w W' r l' x' e:=by
  have:=h.lt
  exact ⟨h.res.kept ho (by omega),h.ent.kept ho (by omega),hr,h.only.trans ho (fun j hj e=>e),h.lt⟩
set_option maxHeartbeats 800000 in
theorem taken_any (w:World) (r:Nat) (s:ByteArray) (hR:Rd w r s 0) (hr:r < w.heap.size) :
    Calls Tryz.prog 142 #[.pointer (some ⟨r,0,none⟩)] w fun e w'=>e=.returned (takeE (bl s)).1.agg∧Rd w' r (str (takeE (bl s)).2.1) (takeE (bl s)).2.2∧Only (fun k=>k=r) w w':=by
  have H0:Hid (Tk w ((w.alloc (.cells #[.string ⟨#[]⟩,.int .i64 0,.int .i64 0] 89)).alloc (.cells #[.string ⟨#[]⟩,.int .i64 0,.int .i64 0] 89)) r (bl s) 0 noE):=by
    have e1:=Ev.zero (w.alloc (.cells #[.string ⟨#[]⟩,.int .i64 0,.int .i64 0] 89))
    rw [World.size_alloc] at e1
    refine ⟨(Ev.zero w).more (onlyA _ _),e1,?_,(o2 (onlyA _ _) (onlyA _ _)).mono (fun _ _ h=>h.elim),hr⟩
    rw [str_bl]
    exact (hR.alloc _).alloc _
  obtain ⟨P,hP⟩:=exq (rdT 24 (bl s))
  obtain ⟨A,hA⟩:=exq (rnS P.2 65535)
  obtain ⟨C,hC⟩:=exq (rnS A.2 65535)
  have HT:Hid (takeE (bl s)=(⟨str P.1,A.1,C.1⟩,C.2)):=by
    unfold Hid takeE
    rw [hP,hA,hC]
  have HP:=hide hP
  have HA:=hide hA
  have HC:=hide hC
  rw [HT.out]
  clear hP hA hC hR hr
  obtain ⟨K,hK⟩:=exq (str P.1)
  have HK:=hide hK
  clear hK
  go_enter Tryz.func142,Tryz.ntmps142
  go_upto_region 2 with fail
  obtain ⟨W0,hW0⟩:=exq ((w.alloc (.cells #[.string ⟨#[]⟩,.int .i64 0,.int .i64 0] 89)).alloc (.cells #[.string ⟨#[]⟩,.int .i64 0,.int .i64 0] 89))
  rw [hW0] at H0 ⊢
  clear hW0
  go_wp2_with fail
  have h1:=H0.out.rd
  rw [str_bl] at h1
  refine (rtext_stN W0 r s 24 h1).mono ?_
  clear h1
  rintro e W1 ⟨rfl,hr1,ho1⟩
  rw [HP.out] at hr1 ⊢
  rw [HK.out]
  have H1:=hide (H0.out.take hr1 ho1)
  clear hr1 ho1 H0
  have c0:=H1.out.ent.c0
  have f0:=H1.out.ent.f0
  go_wp2_with fail
  have H2:=hide (H1.out.set 0 _ (H1.out.ent.s0 K))
  clear c0 f0 H1
  obtain ⟨W2,hW2⟩:=exq (W1.setCell ⟨w.heap.size+1,0,none⟩ (.string K))
  rw [hW2] at H2 ⊢
  clear hW2
  refine (rnum_st W2 r P.2.1 P.2.2 65535 H2.out.rd).mono ?_
  rintro e W3 ⟨rfl,hr3,ho3⟩
  rw [HA.out] at hr3 ⊢
  have H3:=hide (H2.out.take hr3 ho3)
  clear hr3 ho3 H2
  have c1:=H3.out.ent.c1
  have f1:=H3.out.ent.f1
  go_wp2_with fail
  have H4:=hide (H3.out.set 1 _ (H3.out.ent.s1 A.1))
  clear c1 f1 H3
  obtain ⟨W4,hW4⟩:=exq (W3.setCell ⟨w.heap.size+1,1,none⟩ (.int .i64 A.1))
  rw [hW4] at H4 ⊢
  clear hW4
  refine (rnum_st W4 r A.2.1 A.2.2 65535 H4.out.rd).mono ?_
  rintro e W5 ⟨rfl,hr5,ho5⟩
  rw [HC.out] at hr5 ⊢
  have H5:=hide (H4.out.take hr5 ho5)
  clear hr5 ho5 H4
  have c2:=H5.out.ent.c2
  have f2:=H5.out.ent.f2
  go_upto_region 5 with fail
  have H6:=hide (H5.out.set 2 _ (H5.out.ent.s2 C.1))
  clear c2 f2 H5
  obtain ⟨W6,hW6⟩:=exq (W5.setCell ⟨w.heap.size+1,2,none⟩ (.int .i64 C.1))
  rw [hW6] at H6 ⊢
  clear hW6
  have c0:=H6.out.ent.c0
  have c1:=H6.out.ent.c1
  have c2:=H6.out.ent.c2
  simp only [] at c0 c1 c2
  have r0:=H6.out.res.c0
  have r1:=H6.out.res.c1
  have r2:=H6.out.res.c2
  have g0:=H6.out.res.f0
  have g1:=H6.out.res.f1
  have g2:=H6.out.res.f2
  go_wp2_with fail
  refine bodyPost_ret (results_ev1 rfl rfl (H6.out.res.all ⟨K,A.1,C.1⟩)) rfl ?_
  have ho:=Only.three W6 w.heap.size (.string K) (.int .i64 A.1) (.int .i64 C.1)
  have:=H6.out.lt
  exact ⟨by rw [HK.out],H6.out.rd.kept ho (by omega),H6.out.only.trans ho (fun j hj e=>by omega)⟩
def outE (o:Option En):Value:=.tuple #[(o.getD noE).agg,.int .i64 (if o.isSome then 0 else 140)]
structure Dc (w W:World) (l:List UInt8) (x:Int):Prop where
  res:Ev W w.heap.size noE
  rd:Rd W (w.heap.size+1) (str l) x
  only:Only (fun _=>False) w W
theorem Dc.take {w W W':World} {l l':List UInt8} {x x':Int} (h:Dc w W l x) (hr:Rd W' (w.heap.size+1) (str l') x') (ho:Only (fun k=>k=w.heap.size+1) W W'):Dc w W' l' x' :=
  ⟨h.res.kept ho (by omega),hr,h.only.trans ho (fun i hi e=>by omega)⟩
theorem Dc.more {w W W':World} {l:List UInt8} {x:Int} (h:Dc w W l x) (ho:Only (fun _=>False) W W'):Dc w W' l x :=
  ⟨h.res.more ho,h.rd.kept ho (fun h=>h),o2 h.only ho⟩
set_option maxHeartbeats 800000 in
theorem decode_any (s:ByteArray) (w:World) :
    Calls Tryz.prog 99 #[.string s] w fun e w'=>e=.returned (outE (decE (bl s)))∧Only (fun _=>False) w w':=by
  have H0:Hid (Dc w ((w.alloc (.cells #[.string ⟨#[]⟩,.int .i64 0,.int .i64 0] 89)).alloc (.cells #[.string s,.int .i64 0] 233)) (bl s) 0):=by
    have e1:=Rd.new (w.alloc (.cells #[.string ⟨#[]⟩,.int .i64 0,.int .i64 0] 89)) s
    rw [World.size_alloc] at e1
    refine ⟨(Ev.zero w).more (onlyA _ _),by rw [str_bl]; exact e1,o2 (onlyA _ _) (onlyA _ _)⟩
  go_enter Tryz.func99,Tryz.ntmps99
  go_wp2_with fail
  refine (read_any s _).mono ?_
  rintro e w2 ⟨rfl,rfl⟩
  go_upto_region 2 with fail
  obtain ⟨W0,hW0⟩:=exq ((w.alloc (.cells #[.string ⟨#[]⟩,.int .i64 0,.int .i64 0] 89)).alloc (.cells #[.string s,.int .i64 0] 233))
  rw [hW0] at H0 ⊢
  clear hW0
  have h1:=H0.out.rd
  rw [str_bl] at h1
  have HTK:=hide (taken_any W0 (w.heap.size+1) s h1 h1.lt)
  clear h1
  obtain ⟨T,hT⟩:=exq (takeE (bl s))
  have HD:Hid (decE (bl s)=if endE T.2.1 T.2.2=0∧T.1.ok=true then some T.1 else none):=by
    unfold Hid decE
    rw [hT]
  rw [hT] at HTK
  clear hT
  obtain ⟨e,l,x⟩:=T
  obtain ⟨k,p,q⟩:=e
  unfold En.agg at HTK
  simp only [] at HTK HD
  go_wp2_with fail
  refine HTK.out.mono ?_
  rintro e W1 ⟨rfl,hr1,ho1⟩
  go_upto_region 3 with fail
  have H1:=hide (H0.out.take hr1 ho1)
  have HV:=hide (Ev.new W1 ⟨k,p,q⟩)
  have HA:=hide (onlyA W1 (.cells #[.string k,.int .i64 p,.int .i64 q] 89))
  have HS:Hid (w.heap.size+1 < W1.heap.size):=H1.out.rd.lt
  simp only [] at HV
  clear hr1 ho1 H0 HTK
  obtain ⟨W2,hW2⟩:=exq (W1.alloc (.cells #[.string k,.int .i64 p,.int .i64 q] 89))
  rw [hW2] at HV HA ⊢
  clear hW2
  have H2:=hide (H1.out.more HA.out)
  clear HA H1
  have HIE:Hid (∀ W,Calls Tryz.prog 84 #[.agg #[.string k,.int .i64 p,.int .i64 q]] W fun x w'=>x=.returned (.bool (En.ok ⟨k,p,q⟩))∧Only (fun _=>False) W w'):=fun W=>isEntry_any ⟨k,p,q⟩ W
  obtain ⟨O,hO⟩:=exq (En.ok ⟨k,p,q⟩)
  rw [hO] at HIE HD
  clear hO
  have HRE:Hid (Calls Tryz.prog 143 #[.pointer (some ⟨w.heap.size+1,0,none⟩)] W2 fun e w'=>e=.returned (.int .i64 (endE l x))∧w'=W2):=rend_stN W2 _ l x H2.out.rd
  obtain ⟨E,hE⟩:=exq (endE l x)
  rw [hE] at HRE HD
  clear hE
  by_cases he:E=0
  · subst he
    have HDX:Hid (decE (bl s)=if O=true then some ⟨k,p,q⟩ else none):=by unfold Hid; rw [HD.out]; simp
    clear HD
    have c0:=HV.out.c0
    have c1:=HV.out.c1
    have c2:=HV.out.c2
    simp only [] at c0 c1 c2
    go_wp2_with fail
    refine HRE.out.mono ?_
    rintro e W3 ⟨rfl,h3⟩
    obtain rfl:=h3.symm
    go_wp2_with fail
    refine (HIE.out _).mono ?_
    rintro e W4 ⟨rfl,ho4⟩
    have H4:=hide (H2.out.more ho4)
    have HV4:=hide (HV.out.more ho4)
    clear ho4 c0 c1 c2
    have c0:=HV4.out.c0
    have c1:=HV4.out.c1
    have c2:=HV4.out.c2
    simp only [] at c0 c1 c2
    have r0:=H4.out.res.c0
    have r1:=H4.out.res.c1
    have r2:=H4.out.res.c2
    have g0:=H4.out.res.f0
    have g1:=H4.out.res.f1
    have g2:=H4.out.res.f2
    cases O
    · go_wp2_with fail
      refine bodyPost_ret (results_ev rfl rfl (H4.out.res.all noE)) rfl ?_
      exact ⟨by rw [HDX.out]; rfl,H4.out.only.trans (Only.three _ _ _ _ _) (fun i hi e=>by omega)⟩
    · go_wp2_with fail
      refine bodyPost_ret (results_ev rfl rfl (H4.out.res.all ⟨k,p,q⟩)) rfl ?_
      exact ⟨by rw [HDX.out]; rfl,H4.out.only.trans (Only.three _ _ _ _ _) (fun i hi e=>by omega)⟩
  · have he':(E != 0)=true:=by simpa using he
    have HDX:Hid (decE (bl s)=none):=by unfold Hid; rw [HD.out,if_neg (fun h=>he h.1)]
    clear he HD
    have r0:=H2.out.res.c0
    have r1:=H2.out.res.c1
    have r2:=H2.out.res.c2
    have g0:=H2.out.res.f0
    have g1:=H2.out.res.f1
    have g2:=H2.out.res.f2
    go_wp2_with fail
    refine HRE.out.mono ?_
    rintro e W3 ⟨rfl,h3⟩
    obtain rfl:=h3.symm
    go_wp2_with fail
    refine bodyPost_ret (results_ev rfl rfl (H2.out.res.all noE)) rfl ?_
    exact ⟨by rw [HDX.out]; rfl,H2.out.only.trans (Only.three _ _ _ _ _) (fun i hi e=>by omega)⟩
def outS (o:Option (En × Int)):Value:=.tuple #[(o.getD (noE,0)).1.agg,.int .i64 (o.getD (noE,0)).2,.int .i64 (if o.isSome then 0 else 140)]
set_option maxHeartbeats 800000 in
theorem unsep_any (s:ByteArray) (w:World) :
    Calls Tryz.prog 100 #[.string s] w fun e w'=>e=.returned (outS (decS (bl s)))∧Only (fun _=>False) w w':=by
  have H0:Hid (Dc w ((w.alloc (.cells #[.string ⟨#[]⟩,.int .i64 0,.int .i64 0] 89)).alloc (.cells #[.string s,.int .i64 0] 233)) (bl s) 0):=by
    have e1:=Rd.new (w.alloc (.cells #[.string ⟨#[]⟩,.int .i64 0,.int .i64 0] 89)) s
    rw [World.size_alloc] at e1
    refine ⟨(Ev.zero w).more (onlyA _ _),by rw [str_bl]; exact e1,o2 (onlyA _ _) (onlyA _ _)⟩
  go_enter Tryz.func100,Tryz.ntmps100
  go_wp2_with fail
  refine (read_any s _).mono ?_
  rintro e w2 ⟨rfl,rfl⟩
  go_upto_region 2 with fail
  obtain ⟨W0,hW0⟩:=exq ((w.alloc (.cells #[.string ⟨#[]⟩,.int .i64 0,.int .i64 0] 89)).alloc (.cells #[.string s,.int .i64 0] 233))
  rw [hW0] at H0 ⊢
  clear hW0
  have h1:=H0.out.rd
  rw [str_bl] at h1
  have HTK:=hide (taken_any W0 (w.heap.size+1) s h1 h1.lt)
  clear h1
  obtain ⟨T,hT⟩:=exq (takeE (bl s))
  obtain ⟨C,hC⟩:=exq (rnS T.2 65535)
  have HD:Hid (decS (bl s)=if endE C.2.1 C.2.2=0∧T.1.sp=true∧okC C.1=true then some (T.1,C.1) else none):=by
    unfold Hid decS takeS
    rw [hT,hC]
  have HC:=hide hC
  rw [hT] at HTK
  clear hT hC
  obtain ⟨e,l,x⟩:=T
  obtain ⟨k,p,q⟩:=e
  obtain ⟨c,l2,x2⟩:=C
  unfold En.agg at HTK
  simp only [] at HTK HD HC
  go_wp2_with fail
  refine HTK.out.mono ?_
  rintro e W1 ⟨rfl,hr1,ho1⟩
  go_upto_region 3 with fail
  have H1:=hide (H0.out.take hr1 ho1)
  have HV:=hide (Ev.new W1 ⟨k,p,q⟩)
  have HA:=hide (onlyA W1 (.cells #[.string k,.int .i64 p,.int .i64 q] 89))
  have HS:Hid (w.heap.size+1 < W1.heap.size):=H1.out.rd.lt
  obtain ⟨b,hb⟩:=exq (W1.heap.size)
  rw [hb] at HV HS ⊢
  clear hb
  simp only [] at HV
  clear hr1 ho1 H0 HTK
  obtain ⟨W2,hW2⟩:=exq (W1.alloc (.cells #[.string k,.int .i64 p,.int .i64 q] 89))
  rw [hW2] at HV HA ⊢
  clear hW2
  have H2:=hide (H1.out.more HA.out)
  clear HA H1
  go_wp2_with fail
  refine (rnum_st W2 _ l x 65535 H2.out.rd).mono ?_
  rintro e W3 ⟨rfl,hr3,ho3⟩
  rw [HC.out] at hr3 ⊢
  have H3:=hide (H2.out.take hr3 ho3)
  have HV3:=hide (HV.out.kept ho3 (by have:=HS.out; omega))
  clear hr3 ho3 H2 HV
  simp only [] at H3
  have HIE:Hid (∀ W,Calls Tryz.prog 145 #[.agg #[.string k,.int .i64 p,.int .i64 q]] W fun x w'=>x=.returned (.bool (En.sp ⟨k,p,q⟩))∧Only (fun _=>False) W w'):=fun W=>separates_any ⟨k,p,q⟩ W
  have HIC:Hid (∀ W,Calls Tryz.prog 146 #[.int .i64 c] W fun x w'=>x=.returned (.bool (okC c))∧w'=W):=fun W=>isChild_any c W
  obtain ⟨O,hO⟩:=exq (En.sp ⟨k,p,q⟩)
  obtain ⟨U,hU⟩:=exq (okC c)
  rw [hO] at HIE HD
  rw [hU] at HIC HD
  clear hO hU
  have HRE:Hid (Calls Tryz.prog 143 #[.pointer (some ⟨w.heap.size+1,0,none⟩)] W3 fun e w'=>e=.returned (.int .i64 (endE l2 x2))∧w'=W3):=rend_stN W3 _ l2 x2 H3.out.rd
  obtain ⟨E,hE⟩:=exq (endE l2 x2)
  rw [hE] at HRE HD
  clear hE
  by_cases he:E=0
  · subst he
    have HDX:Hid (decS (bl s)=if O=true∧U=true then some (⟨k,p,q⟩,c) else none):=by unfold Hid; rw [HD.out]; simp
    clear HD
    have c0:=HV3.out.c0
    have c1:=HV3.out.c1
    have c2:=HV3.out.c2
    simp only [] at c0 c1 c2
    go_wp2_with fail
    refine HRE.out.mono ?_
    rintro e W4 ⟨rfl,h4⟩
    obtain rfl:=h4.symm
    go_wp2_with fail
    refine (HIE.out _).mono ?_
    rintro e W5 ⟨rfl,ho5⟩
    have H5:=hide (H3.out.more ho5)
    have HV5:=hide (HV3.out.more ho5)
    clear ho5 c0 c1 c2
    have c0:=HV5.out.c0
    have c1:=HV5.out.c1
    have c2:=HV5.out.c2
    simp only [] at c0 c1 c2
    have r0:=H5.out.res.c0
    have r1:=H5.out.res.c1
    have r2:=H5.out.res.c2
    have g0:=H5.out.res.f0
    have g1:=H5.out.res.f1
    have g2:=H5.out.res.f2
    cases O
    · go_wp2_with fail
      refine bodyPost_ret (results_ev3 rfl rfl (H5.out.res.all noE)) rfl ?_
      exact ⟨by rw [HDX.out]; rfl,H5.out.only.trans (Only.three _ _ _ _ _) (fun i hi e=>by omega)⟩
    · go_wp2_with fail
      refine (HIC.out _).mono ?_
      rintro e W6 ⟨rfl,h6⟩
      obtain rfl:=h6.symm
      cases U
      · go_wp2_with fail
        refine bodyPost_ret (results_ev3 rfl rfl (H5.out.res.all noE)) rfl ?_
        exact ⟨by rw [HDX.out]; rfl,H5.out.only.trans (Only.three _ _ _ _ _) (fun i hi e=>by omega)⟩
      · go_wp2_with fail
        refine bodyPost_ret (results_ev3 rfl rfl (H5.out.res.all ⟨k,p,q⟩)) rfl ?_
        exact ⟨by rw [HDX.out]; rfl,H5.out.only.trans (Only.three _ _ _ _ _) (fun i hi e=>by omega)⟩
  · have he':(E != 0)=true:=by simpa using he
    have HDX:Hid (decS (bl s)=none):=by unfold Hid; rw [HD.out,if_neg (fun h=>he h.1)]
    clear he HD
    have r0:=H3.out.res.c0
    have r1:=H3.out.res.c1
    have r2:=H3.out.res.c2
    have g0:=H3.out.res.f0
    have g1:=H3.out.res.f1
    have g2:=H3.out.res.f2
    go_wp2_with fail
    refine HRE.out.mono ?_
    rintro e W4 ⟨rfl,h4⟩
    obtain rfl:=h4.symm
    go_wp2_with fail
    refine bodyPost_ret (results_ev3 rfl rfl (H3.out.res.all noE)) rfl ?_
    exact ⟨by rw [HDX.out]; rfl,H3.out.only.trans (Only.three _ _ _ _ _) (fun i hi e=>by omega)⟩
structure Cv (w:World) (b:Nat) (es ks:Value) (h:En):Prop where
  c0:w.cell? ⟨b,0,none⟩=some es
  c1:w.cell? ⟨b,1,none⟩=some ks
  c2:w.cell? ⟨b,2,none⟩=some (.string h.key)
  c3:w.cell? ⟨b,3,none⟩=some (.int .i64 h.page)
  c4:w.cell? ⟨b,4,none⟩=some (.int .i64 h.slot)
  f0:w.frozen? ⟨b,0,none⟩=false
  f1:w.frozen? ⟨b,1,none⟩=false
  f2:w.frozen? ⟨b,2,none⟩=false
  f3:w.frozen? ⟨b,3,none⟩=false
  f4:w.frozen? ⟨b,4,none⟩=false
  lt:b < w.heap.size
theorem Cv.kept {S:Nat→Prop} {w w':World} {b:Nat} {es ks:Value} {h:En} (x:Cv w b es ks h) (ho:Only S w w') (hS:¬ S b):Cv w' b es ks h :=
  ⟨(ho.cell (p:=⟨b,0,none⟩) x.lt hS).trans x.c0,(ho.cell (p:=⟨b,1,none⟩) x.lt hS).trans x.c1,(ho.cell (p:=⟨b,2,none⟩) x.lt hS).trans x.c2,(ho.cell (p:=⟨b,3,none⟩) x.lt hS).trans x.c3,(ho.cell (p:=⟨b,4,none⟩) x.lt hS).trans x.c4,
   (ho.frozen (p:=⟨b,0,none⟩) x.lt hS).trans x.f0,(ho.frozen (p:=⟨b,1,none⟩) x.lt hS).trans x.f1,(ho.frozen (p:=⟨b,2,none⟩) x.lt hS).trans x.f2,(ho.frozen (p:=⟨b,3,none⟩) x.lt hS).trans x.f3,(ho.frozen (p:=⟨b,4,none⟩) x.lt hS).trans x.f4,Nat.lt_of_lt_of_le x.lt ho.size⟩
theorem Cv.more {w w':World} {b:Nat} {es ks:Value} {h:En} (x:Cv w b es ks h) (ho:Only (fun _=>False) w w'):Cv w' b es ks h:=x.kept ho (fun h=>h)
theorem Cv.new (w:World) (es ks:Value) (h:En):Cv (w.alloc (.cells #[es,ks,.string h.key,.int .i64 h.page,.int .i64 h.slot] 164)) w.heap.size es ks h :=
  ⟨by simp,by simp,by simp,by simp,by simp,by simp,by simp,by simp,by simp,by simp,by simp⟩
def cvv (es ks:Value) (h:En):Value:=.agg #[es,ks,.string h.key,.int .i64 h.page,.int .i64 h.slot]
theorem load_cv {w:World} {b:Nat} {a1 a2:Option Addr} {n1 n2 c1 c2:Nat} {h:En} (x:Cv w b (.slice a1 n1 c1) (.slice a2 n2 c2) h):(loadVar 164 ⟨b,0,none⟩).run Tryz.prog w=.ok (cvv (.slice a1 n1 c1) (.slice a2 n2 c2) h) w:=by
  have c0:=x.c0
  have c1:=x.c1
  have c2:=x.c2
  have c3:=x.c3
  have c4:=x.c4
  simp [loadVar,go_sem,c0,c1,c2,c3,c4,cvv]
theorem results_cv {fn:Func} {p u:Tmp} (h:fn.results=#[.cell p 164,.tmp u]) {tmps:Array Value} {w:World} {b:Nat} {a1 a2:Option Addr} {n1 n2 c1 c2:Nat} {hi:En} (hp:tmps.getD p undef=.pointer (some ⟨b,0,none⟩)) (hP:Cv w b (.slice a1 n1 c1) (.slice a2 n2 c2) hi) :
    (results fn tmps).run Tryz.prog w=.ok (.tuple #[cvv (.slice a1 n1 c1) (.slice a2 n2 c2) hi,tmps.getD u undef]) w:=by
  have e:(asAddr (.pointer (some ⟨b,0,none⟩))).run Tryz.prog w=.ok ⟨b,0,none⟩ w:=rfl
  rw [results_cell_tmp h,hp,e]
  simp only [Result.andThen,load_cv hP]
theorem Cv.s0 {w:World} {b:Nat} {es ks:Value} {h:En} (x:Cv w b es ks h) (v:Value):Cv (w.setCell ⟨b,0,none⟩ v) b v ks h :=
  ⟨World.cell?_setCell_same _ _ _ x.c0,othN _ _ _ _ _ _ (by omega) x.c1,othN _ _ _ _ _ _ (by omega) x.c2,othN _ _ _ _ _ _ (by omega) x.c3,othN _ _ _ _ _ _ (by omega) x.c4,by simpa using x.f0,by simpa using x.f1,by simpa using x.f2,by simpa using x.f3,by simpa using x.f4,by simpa using x.lt⟩
theorem Cv.s1 {w:World} {b:Nat} {es ks:Value} {h:En} (x:Cv w b es ks h) (v:Value):Cv (w.setCell ⟨b,1,none⟩ v) b es v h :=
  ⟨othN _ _ _ _ _ _ (by omega) x.c0,World.cell?_setCell_same _ _ _ x.c1,othN _ _ _ _ _ _ (by omega) x.c2,othN _ _ _ _ _ _ (by omega) x.c3,othN _ _ _ _ _ _ (by omega) x.c4,by simpa using x.f0,by simpa using x.f1,by simpa using x.f2,by simpa using x.f3,by simpa using x.f4,by simpa using x.lt⟩
theorem Cv.s2 {w:World} {b:Nat} {es ks:Value} {h:En} (x:Cv w b es ks h) (v:ByteArray):Cv (w.setCell ⟨b,2,none⟩ (.string v)) b es ks ⟨v,h.page,h.slot⟩ :=
  ⟨othN _ _ _ _ _ _ (by omega) x.c0,othN _ _ _ _ _ _ (by omega) x.c1,World.cell?_setCell_same _ _ _ x.c2,othN _ _ _ _ _ _ (by omega) x.c3,othN _ _ _ _ _ _ (by omega) x.c4,by simpa using x.f0,by simpa using x.f1,by simpa using x.f2,by simpa using x.f3,by simpa using x.f4,by simpa using x.lt⟩
theorem Cv.s3 {w:World} {b:Nat} {es ks:Value} {h:En} (x:Cv w b es ks h) (v:Int):Cv (w.setCell ⟨b,3,none⟩ (.int .i64 v)) b es ks ⟨h.key,v,h.slot⟩ :=
  ⟨othN _ _ _ _ _ _ (by omega) x.c0,othN _ _ _ _ _ _ (by omega) x.c1,othN _ _ _ _ _ _ (by omega) x.c2,World.cell?_setCell_same _ _ _ x.c3,othN _ _ _ _ _ _ (by omega) x.c4,by simpa using x.f0,by simpa using x.f1,by simpa using x.f2,by simpa using x.f3,by simpa using x.f4,by simpa using x.lt⟩
theorem Cv.s4 {w:World} {b:Nat} {es ks:Value} {h:En} (x:Cv w b es ks h) (v:Int):Cv (w.setCell ⟨b,4,none⟩ (.int .i64 v)) b es ks ⟨h.key,h.page,v⟩ :=
  ⟨othN _ _ _ _ _ _ (by omega) x.c0,othN _ _ _ _ _ _ (by omega) x.c1,othN _ _ _ _ _ _ (by omega) x.c2,othN _ _ _ _ _ _ (by omega) x.c3,World.cell?_setCell_same _ _ _ x.c4,by simpa using x.f0,by simpa using x.f1,by simpa using x.f2,by simpa using x.f3,by simpa using x.f4,by simpa using x.lt⟩
theorem Cv.all {w:World} {b:Nat} {u v:Value} {g:En} (x:Cv w b u v g) (es ks:Value) (h:En):Cv (((((w.setCell ⟨b,0,none⟩ es).setCell ⟨b,1,none⟩ ks).setCell ⟨b,2,none⟩ (.string h.key)).setCell ⟨b,3,none⟩ (.int .i64 h.page)).setCell ⟨b,4,none⟩ (.int .i64 h.slot)) b es ks h :=
  ((((x.s0 es).s1 ks).s2 h.key).s3 h.page).s4 h.slot
theorem Only.five (w:World) (b:Nat) (v0 v1 v2 v3 v4:Value):Only (fun k=>k=b) w (((((w.setCell ⟨b,0,none⟩ v0).setCell ⟨b,1,none⟩ v1).setCell ⟨b,2,none⟩ v2).setCell ⟨b,3,none⟩ v3).setCell ⟨b,4,none⟩ v4):=by
  have st:∀ (W:World) (i:Nat) (v:Value),Only (fun k=>k=b) W (W.setCell ⟨b,i,none⟩ v):=fun W i v=>Only.setCell W ⟨b,i,none⟩ v rfl
  exact ((((st _ 0 _).trans (st _ 1 _) (fun _ _ h=>h)).trans (st _ 2 _) (fun _ _ h=>h)).trans (st _ 3 _) (fun _ _ h=>h)).trans (st _ 4 _) (fun _ _ h=>h)
theorem byd_of {h e:En} (hn:¬ h=noE):byd h e=decide (0 < cmpE e h):=by
  unfold byd
  exact decide_eq_decide.2 ⟨fun k=>cmpE_pos.2 k.2,fun k=>⟨hn,cmpE_pos.1 k⟩⟩
theorem blw_of {h e:En} (hn:¬ h=noE):blw h e=decide (cmpE e h < 0):=by
  unfold blw
  refine decide_eq_decide.2 ⟨fun k=>?_,fun k=>.inr (cmpE_neg.1 k)⟩
  rcases k with k | k
  · exact absurd k hn
  · exact cmpE_neg.2 k
set_option maxHeartbeats 1600000 in
theorem isBeyond_any (w:World) (a1 a2:Option Addr) (n1 n2 c1 c2:Nat) (h e:En) :
    Calls Tryz.prog 85 #[cvv (.slice a1 n1 c1) (.slice a2 n2 c2) h,e.agg] w fun x w'=>x=.returned (.bool (byd h e))∧Only (fun _=>False) w w':=by
  have HL:Hid (∀ W,Calls Tryz.prog 127 #[h.agg] W fun x w'=>x=.returned (.bool (decide (h=noE)))∧Only (fun _=>False) W w'):=fun W=>isLeast_any h W
  have HM:Hid (∀ W,Calls Tryz.prog 125 #[e.agg,h.agg] W fun x w'=>x=.returned (.int .i64 (cmpE e h))∧Only (fun _=>False) W w'):=fun W=>compare_any e h W
  have HCV:=hide ((Cv.new w (.slice a1 n1 c1) (.slice a2 n2 c2) h).more (onlyA _ (.cells #[.string e.key,.int .i64 e.page,.int .i64 e.slot] 89)))
  have HEV:=hide (Ev.new (w.alloc (.cells #[.slice a1 n1 c1,.slice a2 n2 c2,.string h.key,.int .i64 h.page,.int .i64 h.slot] 164)) e)
  rw [World.size_alloc] at HEV
  have HO:=hide (o2 (onlyA w (.cells #[.slice a1 n1 c1,.slice a2 n2 c2,.string h.key,.int .i64 h.page,.int .i64 h.slot] 164)) (onlyA _ (.cells #[.string e.key,.int .i64 e.page,.int .i64 e.slot] 89)))
  by_cases hn:h=noE
  · have hd:decide (h=noE)=true:=decide_eq_true hn
    have hb:byd h e=false:=by rw [hn,byd_noE]
    rw [hd] at HL
    rw [hb]
    clear hn hd hb
    obtain ⟨k,p,s⟩:=h
    obtain ⟨k',p',s'⟩:=e
    unfold cvv
    unfold En.agg at HL HM ⊢
    simp only [] at HL HM HCV HEV HO ⊢
    go_enter Tryz.func85,Tryz.ntmps85
    obtain ⟨W0,hW0⟩:=exq ((w.alloc (.cells #[.slice a1 n1 c1,.slice a2 n2 c2,.string k,.int .i64 p,.int .i64 s] 164)).alloc (.cells #[.string k',.int .i64 p',.int .i64 s'] 89))
    rw [hW0] at HCV HEV HO
    go_upto_region 1 with fail
    clear hW0
    have c2:=HCV.out.c2
    have c3:=HCV.out.c3
    have c4:=HCV.out.c4
    simp only [] at c2 c3 c4
    go_wp2_with fail
    refine (HL.out _).mono ?_
    rintro x w1 ⟨rfl,ho⟩
    have HO1:=hide (o2 HO.out ho)
    clear ho c2 c3 c4
    go_wp2_with fail
    go_ret
    exact ⟨rfl,HO1.out⟩
  · have hd:decide (h=noE)=false:=decide_eq_false hn
    rw [hd] at HL
    rw [byd_of hn]
    clear hn hd
    obtain ⟨c,hc⟩:=exq (cmpE e h)
    rw [hc] at HM ⊢
    clear hc
    obtain ⟨k,p,s⟩:=h
    obtain ⟨k',p',s'⟩:=e
    unfold cvv
    unfold En.agg at HL HM ⊢
    simp only [] at HL HM HCV HEV HO ⊢
    go_enter Tryz.func85,Tryz.ntmps85
    obtain ⟨W0,hW0⟩:=exq ((w.alloc (.cells #[.slice a1 n1 c1,.slice a2 n2 c2,.string k,.int .i64 p,.int .i64 s] 164)).alloc (.cells #[.string k',.int .i64 p',.int .i64 s'] 89))
    rw [hW0] at HCV HEV HO
    go_upto_region 1 with fail
    clear hW0
    have c2:=HCV.out.c2
    have c3:=HCV.out.c3
    have c4:=HCV.out.c4
    simp only [] at c2 c3 c4
    go_wp2_with fail
    refine (HL.out _).mono ?_
    rintro x w1 ⟨rfl,ho⟩
    have HO1:=hide (o2 HO.out ho)
    have HC1:=hide (HCV.out.more ho)
    have HE1:=hide (HEV.out.more ho)
    clear ho c2 c3 c4
    have c2:=HC1.out.c2
    have c3:=HC1.out.c3
    have c4:=HC1.out.c4
    have d0:=HE1.out.c0
    have d1:=HE1.out.c1
    have d2:=HE1.out.c2
    simp only [] at c2 c3 c4 d0 d1 d2
    go_wp2_with fail
    refine (HM.out _).mono ?_
    rintro x w2 ⟨rfl,ho⟩
    have HO2:=hide (o2 HO1.out ho)
    clear ho
    go_wp2_with fail
    go_ret
    exact ⟨rfl,HO2.out⟩
set_option maxHeartbeats 1600000 in
theorem isBelow_any (w:World) (a1 a2:Option Addr) (n1 n2 c1 c2:Nat) (h e:En) :
    Calls Tryz.prog 148 #[cvv (.slice a1 n1 c1) (.slice a2 n2 c2) h,e.agg] w fun x w'=>x=.returned (.bool (blw h e))∧Only (fun _=>False) w w':=by
  have HL:Hid (∀ W,Calls Tryz.prog 127 #[h.agg] W fun x w'=>x=.returned (.bool (decide (h=noE)))∧Only (fun _=>False) W w'):=fun W=>isLeast_any h W
  have HM:Hid (∀ W,Calls Tryz.prog 125 #[e.agg,h.agg] W fun x w'=>x=.returned (.int .i64 (cmpE e h))∧Only (fun _=>False) W w'):=fun W=>compare_any e h W
  have HCV:=hide ((Cv.new w (.slice a1 n1 c1) (.slice a2 n2 c2) h).more (onlyA _ (.cells #[.string e.key,.int .i64 e.page,.int .i64 e.slot] 89)))
  have HEV:=hide (Ev.new (w.alloc (.cells #[.slice a1 n1 c1,.slice a2 n2 c2,.string h.key,.int .i64 h.page,.int .i64 h.slot] 164)) e)
  rw [World.size_alloc] at HEV
  have HO:=hide (o2 (onlyA w (.cells #[.slice a1 n1 c1,.slice a2 n2 c2,.string h.key,.int .i64 h.page,.int .i64 h.slot] 164)) (onlyA _ (.cells #[.string e.key,.int .i64 e.page,.int .i64 e.slot] 89)))
  by_cases hn:h=noE
  · have hd:decide (h=noE)=true:=decide_eq_true hn
    have hb:blw h e=true:=by unfold blw; simp [hn]
    rw [hd] at HL
    rw [hb]
    clear hn hd hb
    obtain ⟨k,p,s⟩:=h
    obtain ⟨k',p',s'⟩:=e
    unfold cvv
    unfold En.agg at HL HM ⊢
    simp only [] at HL HM HCV HEV HO ⊢
    go_enter Tryz.func148,Tryz.ntmps148
    obtain ⟨W0,hW0⟩:=exq ((w.alloc (.cells #[.slice a1 n1 c1,.slice a2 n2 c2,.string k,.int .i64 p,.int .i64 s] 164)).alloc (.cells #[.string k',.int .i64 p',.int .i64 s'] 89))
    rw [hW0] at HCV HEV HO
    go_upto_region 1 with fail
    clear hW0
    have c2:=HCV.out.c2
    have c3:=HCV.out.c3
    have c4:=HCV.out.c4
    simp only [] at c2 c3 c4
    go_wp2_with fail
    refine (HL.out _).mono ?_
    rintro x w1 ⟨rfl,ho⟩
    have HO1:=hide (o2 HO.out ho)
    clear ho c2 c3 c4
    go_wp2_with fail
    go_ret
    exact ⟨rfl,HO1.out⟩
  · have hd:decide (h=noE)=false:=decide_eq_false hn
    rw [hd] at HL
    rw [blw_of hn]
    clear hn hd
    obtain ⟨c,hc⟩:=exq (cmpE e h)
    rw [hc] at HM ⊢
    clear hc
    obtain ⟨k,p,s⟩:=h
    obtain ⟨k',p',s'⟩:=e
    unfold cvv
    unfold En.agg at HL HM ⊢
    simp only [] at HL HM HCV HEV HO ⊢
    go_enter Tryz.func148,Tryz.ntmps148
    obtain ⟨W0,hW0⟩:=exq ((w.alloc (.cells #[.slice a1 n1 c1,.slice a2 n2 c2,.string k,.int .i64 p,.int .i64 s] 164)).alloc (.cells #[.string k',.int .i64 p',.int .i64 s'] 89))
    rw [hW0] at HCV HEV HO
    go_upto_region 1 with fail
    clear hW0
    have c2:=HCV.out.c2
    have c3:=HCV.out.c3
    have c4:=HCV.out.c4
    simp only [] at c2 c3 c4
    go_wp2_with fail
    refine (HL.out _).mono ?_
    rintro x w1 ⟨rfl,ho⟩
    have HO1:=hide (o2 HO.out ho)
    have HC1:=hide (HCV.out.more ho)
    have HE1:=hide (HEV.out.more ho)
    clear ho c2 c3 c4
    have c2:=HC1.out.c2
    have c3:=HC1.out.c3
    have c4:=HC1.out.c4
    have d0:=HE1.out.c0
    have d1:=HE1.out.c1
    have d2:=HE1.out.c2
    simp only [] at c2 c3 c4 d0 d1 d2
    go_wp2_with fail
    refine (HM.out _).mono ?_
    rintro x w2 ⟨rfl,ho⟩
    have HO2:=hide (o2 HO1.out ho)
    clear ho
    go_wp2_with fail
    go_ret
    exact ⟨rfl,HO2.out⟩
def HiIs (h:ByteArray) (hi:En):Prop:=(h=⟨#[]⟩∧hi=noE)∨(h=hi.enc∧hi.ok=true)
def pgv (a k v r:Int) (h:ByteArray) (ao:Option Addr) (n cp:Nat):Value:=.agg #[.int .i64 a,.int .i64 k,.int .i64 v,.int .i64 r,.string h,.slice ao n cp]
theorem HiIs.dec {h:ByteArray} {hi:En} (x:h=hi.enc) (ho:hi.ok=true):decE (bl h)=some hi:=by
  rw [x,bl_enc,decE_lay ho]
theorem enc_ne {hi:En}:¬ hi.enc=(⟨#[]⟩:ByteArray):=by
  intro e
  have h1:bl hi.enc=[]:=by rw [e]
  rw [bl_enc] at h1
  have h2:(txL hi.key).length=0:=by
    have:=congrArg List.length h1
    unfold En.lay at this
    simp only [List.length_append,List.length_nil] at this
    omega
  unfold txL at h2
  have h3:0 < (sev hi.key.size).length:=by unfold sev sevF; split <;> simp
  simp only [List.length_append] at h2
  omega
theorem hd_new (w:World) (v0 v1 v2 v3 v4 v5:Value):Pag ((w.alloc (.cells #[v0,v1,v2,v3,v4,v5] 37)).alloc (.cells #[.string ⟨#[]⟩,.int .i64 0,.int .i64 0] 89)) w.heap.size v0 v1 v2 v3 v4 v5∧Ev ((w.alloc (.cells #[v0,v1,v2,v3,v4,v5] 37)).alloc (.cells #[.string ⟨#[]⟩,.int .i64 0,.int .i64 0] 89)) (w.heap.size+1) noE∧Only (fun _=>False) w ((w.alloc (.cells #[v0,v1,v2,v3,v4,v5] 37)).alloc (.cells #[.string ⟨#[]⟩,.int .i64 0,.int .i64 0] 89)):=by
  refine ⟨(Pag.new w v0 v1 v2 v3 v4 v5).more (onlyA _ _),?_,o2 (onlyA _ _) (onlyA _ _)⟩
  have e1:=Ev.zero (w.alloc (.cells #[v0,v1,v2,v3,v4,v5] 37))
  rw [World.size_alloc] at e1
  exact e1
set_option maxHeartbeats 1600000 in
theorem readHead_ok (w:World) (a v r:Int) (h:ByteArray) (hi:En) (ao:Option Addr) (n cp:Nat) (hv:0≤v∧v≤255) (hr:0≤r∧r≤65535) (hh:HiIs h hi) :
    Calls Tryz.prog 124 #[pgv a 3 v r h ao n cp] w fun e w'=>e=.returned (.tuple #[hi.agg,.bool true])∧Only (fun _=>False) w w':=by
  have HX:=hide (hd_new w (.int .i64 a) (.int .i64 3) (.int .i64 v) (.int .i64 r) (.string h) (.slice ao n cp))
  have HN:Hid (∀ W,Calls Tryz.prog 126 #[.int .i64 r] W fun e w'=>e=.returned (.bool true)∧w'=W):=fun W=>by
    have:=isNumber_any r W
    rwa [show nm r=true by unfold nm; simp; omega] at this
  have t1:¬ v < 0:=by omega
  have t2:¬ (255:Int) < v:=by omega
  clear hv hr
  unfold pgv
  rcases hh with ⟨rfl,rfl⟩ | ⟨hx,ho⟩
  · go_enter Tryz.func124,Tryz.ntmps124
    go_upto_region 1 with fail
    obtain ⟨W0,hW0⟩:=exq ((w.alloc (.cells #[.int .i64 a,.int .i64 3,.int .i64 v,.int .i64 r,.string ⟨#[]⟩,.slice ao n cp] 37)).alloc (.cells #[.string ⟨#[]⟩,.int .i64 0,.int .i64 0] 89))
    rw [hW0] at HX ⊢
    clear hW0
    obtain ⟨p0,p1,p2,p3,p4,p5,_⟩:=HX.out.1
    obtain ⟨q0,q1,q2,g0,g1,g2,ql⟩:=HX.out.2.1
    go_wp2_with fail
    refine (HN.out _).mono ?_
    rintro x w1 ⟨rfl,h1⟩
    obtain rfl:=h1.symm
    go_wp2_with fail
    refine bodyPost_ret (results_ev rfl rfl (HX.out.2.1.all noE)) rfl ?_
    exact ⟨rfl,HX.out.2.2.trans (Only.three _ _ _ _ _) (fun i hi e=>by omega)⟩
  · have HD:Hid (∀ W,Calls Tryz.prog 99 #[.string h] W fun e w'=>e=.returned (.tuple #[.agg #[.string hi.key,.int .i64 hi.page,.int .i64 hi.slot],.int .i64 0])∧Only (fun _=>False) W w'):=fun W=>by
      have:=decode_any h W
      rw [HiIs.dec hx ho] at this
      exact this
    have hne:=ba_neN (s:=h) (t:=⟨#[]⟩) (by rw [hx]; exact enc_ne)
    have hne':¬ h.toList=[]:=by
      have h2:¬ h.toList=(⟨#[]⟩:ByteArray).toList:=by simpa using hne
      rw [ByteArray.toList_eq ⟨#[]⟩] at h2
      exact h2
    have hn1:(h.toList == [])=false:=by simpa using hne'
    have hn2:h.toList.isEmpty=false:=by
      cases e:h.toList with
      | nil=>exact absurd e hne'
      | cons _ _=>rfl
    clear hx ho hne
    go_enter Tryz.func124,Tryz.ntmps124
    go_upto_region 1 with fail
    obtain ⟨W0,hW0⟩:=exq ((w.alloc (.cells #[.int .i64 a,.int .i64 3,.int .i64 v,.int .i64 r,.string h,.slice ao n cp] 37)).alloc (.cells #[.string ⟨#[]⟩,.int .i64 0,.int .i64 0] 89))
    rw [hW0] at HX ⊢
    clear hW0
    obtain ⟨p0,p1,p2,p3,p4,p5,_⟩:=HX.out.1
    go_wp2_with fail
    refine (HN.out _).mono ?_
    rintro x w1 ⟨rfl,h1⟩
    obtain rfl:=h1.symm
    go_wp2_with fail
    refine (HD.out _).mono ?_
    rintro x w2 ⟨rfl,ho⟩
    have HE2:=hide (HX.out.2.1.more ho)
    have HO2:=hide (o2 HX.out.2.2 ho)
    clear ho p0 p1 p2 p3 p4 p5 HX
    go_upto_region 6 with fail
    have HE3:=hide (HE2.out.more (onlyA w2 (.cells #[.string hi.key,.int .i64 hi.page,.int .i64 hi.slot] 89)))
    have HO3:=hide (o2 HO2.out (onlyA w2 (.cells #[.string hi.key,.int .i64 hi.page,.int .i64 hi.slot] 89)))
    have HV3:=hide (Ev.new w2 hi)
    clear HE2 HO2
    obtain ⟨W3,hW3⟩:=exq (w2.alloc (.cells #[.string hi.key,.int .i64 hi.page,.int .i64 hi.slot] 89))
    rw [hW3] at HE3 HO3 HV3 ⊢
    clear hW3
    obtain ⟨q0,q1,q2,g0,g1,g2,ql⟩:=HE3.out
    obtain ⟨d0,d1,d2,_⟩:=HV3.out
    go_wp2_with fail
    refine bodyPost_ret (results_ev rfl rfl (HE3.out.all hi)) rfl ?_
    exact ⟨rfl,HO3.out.trans (Only.three _ _ _ _ _) (fun i hi e=>by omega)⟩
theorem readHead_bad (w:World) (a k v r:Int) (h:ByteArray) (ao:Option Addr) (n cp:Nat) (hk:¬ k=3) :
    Calls Tryz.prog 124 #[pgv a k v r h ao n cp] w fun e w'=>e=.returned (.tuple #[noE.agg,.bool false])∧Only (fun _=>False) w w':=by
  have HX:=hide (hd_new w (.int .i64 a) (.int .i64 k) (.int .i64 v) (.int .i64 r) (.string h) (.slice ao n cp))
  have t1:(k != 3)=true:=by simpa using hk
  clear hk
  unfold pgv
  go_enter Tryz.func124,Tryz.ntmps124
  go_upto_region 1 with fail
  obtain ⟨W0,hW0⟩:=exq ((w.alloc (.cells #[.int .i64 a,.int .i64 k,.int .i64 v,.int .i64 r,.string h,.slice ao n cp] 37)).alloc (.cells #[.string ⟨#[]⟩,.int .i64 0,.int .i64 0] 89))
  rw [hW0] at HX ⊢
  clear hW0
  obtain ⟨p0,p1,p2,p3,p4,p5,_⟩:=HX.out.1
  obtain ⟨q0,q1,q2,g0,g1,g2,ql⟩:=HX.out.2.1
  go_wp2_with fail
  refine bodyPost_ret (results_ev rfl rfl (HX.out.2.1.all noE)) rfl ?_
  exact ⟨rfl,HX.out.2.2.trans (Only.three _ _ _ _ _) (fun i hi e=>by omega)⟩
def ecs (es:List En):List Value:=es.flatMap fun e=>[.string e.key,.int .i64 e.page,.int .i64 e.slot]
theorem ecs_len (es:List En):(ecs es).length=es.length * 3:=by
  induction es with
  | nil=>rfl
  | cons e es ih=>simp only [ecs,List.flatMap_cons,List.length_append,List.length_cons,List.length_nil] at ih ⊢; omega
theorem ecs_app (es fs:List En):ecs (es++fs)=ecs es++ecs fs:=by simp [ecs]
theorem ecs_get (es:List En) (j:Nat) (h:j < es.length):(ecs es)[j * 3]?=some (.string es[j].key)∧(ecs es)[j * 3+1]?=some (.int .i64 es[j].page)∧(ecs es)[j * 3+2]?=some (.int .i64 es[j].slot):=by
  induction es generalizing j with
  | nil=>simp at h
  | cons e es ih=>
    have hc:ecs (e :: es)=[.string e.key,.int .i64 e.page,.int .i64 e.slot]++ecs es:=rfl
    rw [hc]
    cases j with
    | zero=>exact ⟨rfl,rfl,rfl⟩
    | succ j=>
      obtain ⟨a,b,c⟩:=ih j (by simpa using h)
      refine ⟨?_,?_,?_⟩
      · rw [List.getElem?_append_right (by simp; omega)]
        simpa [show (j+1) * 3 - 3=j * 3 by omega] using a
      · rw [List.getElem?_append_right (by simp; omega)]
        simpa [show (j+1) * 3+1 - 3=j * 3+1 by omega] using b
      · rw [List.getElem?_append_right (by simp; omega)]
        simpa [show (j+1) * 3+2 - 3=j * 3+2 by omega] using c
theorem ecs_one (es:List En):∀ u ∈ ecs es,u.oneCell'=true:=by
  intro u hu
  simp only [ecs,List.mem_flatMap] at hu
  obtain ⟨e,_,hu⟩:=hu
  simp only [List.mem_cons,List.not_mem_nil,or_false] at hu
  rcases hu with rfl | rfl | rfl <;> rfl
structure Els (w:World) (B:Nat) (ao:Option Addr) (es:List En):Prop where
  at_:0 < es.length→∃ o,ao=some ⟨B,o,none⟩∧∀ j (h:j < es.length),Eb w B (o+j * 3) es[j]
theorem Els.nil (w:World) (B:Nat) (ao:Option Addr):Els w B ao []:=⟨fun h=>absurd h (by simp)⟩
theorem Els.kept {S:Nat→Prop} {w w':World} {B:Nat} {ao:Option Addr} {es:List En} (h:Els w B ao es) (ho:Only S w w') (hS:0 < es.length→¬ S B):Els w' B ao es :=
  ⟨fun h0=>by
    obtain ⟨o,e,hc⟩:=h.at_ h0
    exact ⟨o,e,fun j hj=>(hc j hj).kept ho (hS h0)⟩⟩
theorem Els.more {w w':World} {B:Nat} {ao:Option Addr} {es:List En} (h:Els w B ao es) (ho:Only (fun _=>False) w w'):Els w' B ao es:=h.kept ho (fun _ h=>h)
def Ets (w:World) (base:Nat) (v:Value) (es:List En):Prop:=w.ownsRow base 89 3 v es.length (ecs es)
theorem Ets.nil (w:World) (base:Nat):Ets w base (.slice none 0 0) []:=World.ownsRow_nil _ _ _ _
theorem Ets.kept {S:Nat→Prop} {w w':World} {base:Nat} {v:Value} {es:List En} (h:Ets w base v es) (ho:Only S w w') (hS:∀ k,v.ownBlock=some k→¬ S k):Ets w' base v es:=by
  obtain ⟨h1,h2⟩:=h
  refine ⟨h1,?_⟩
  rcases h2 with h2 | ⟨g,cap,cur,hv,hg,hh,r⟩
  · exact .inl h2
  · subst hv
    exact .inr ⟨g,cap,cur,rfl,hg,by rw [ho.block g (Array.getElem?_eq_some_iff.1 hh).1 (hS g rfl)]; exact hh,r⟩
theorem Ets.more {w w':World} {base:Nat} {v:Value} {es:List En} (h:Ets w base v es) (ho:Only (fun _=>False) w w'):Ets w' base v es:=h.kept ho (fun _ _ h=>h)
theorem Ets.form {w:World} {base:Nat} {v:Value} {es:List En} (h:Ets w base v es):∃ ao cp,v=.slice ao es.length cp:=by
  rcases h.2 with ⟨rfl,h0⟩ | ⟨g,cap,cur,rfl,_⟩
  · exact ⟨none,0,by rw [h0]⟩
  · exact ⟨_,_,rfl⟩
theorem Ets.els {w:World} {base:Nat} {v:Value} {es:List En} (h:Ets w base v es):∃ B ao cp,v=.slice ao es.length cp∧Els w B ao es∧(0 < es.length→base≤B)∧(∀ k,v.ownBlock=some k→base≤k∧k < w.heap.size):=by
  have h':=h
  have hlt:∀ k,v.ownBlock=some k→base≤k∧k < w.heap.size:=fun k hk=>World.ownsRow.lt h' k hk
  rcases h.2 with ⟨rfl,h0⟩ | ⟨g,cap,cur,rfl,hb,hh,_⟩
  · exact ⟨0,none,0,by rw [h0],⟨fun hp=>by omega⟩,fun hp=>by omega,hlt⟩
  · refine ⟨g,_,cap,rfl,⟨fun _=>⟨0,rfl,fun j hj=>?_⟩⟩,fun _=>hb,hlt⟩
    obtain ⟨a,b,c⟩:=ecs_get es j hj
    have hl:=ecs_len es
    refine ⟨?_,?_,?_,(Array.getElem?_eq_some_iff.1 hh).1⟩
    · rw [Nat.zero_add,World.ownsRow.cellAt h' _ (by omega)]; exact a
    · rw [Nat.zero_add,World.ownsRow.cellAt h' _ (by omega)]; exact b
    · rw [Nat.zero_add,World.ownsRow.cellAt h' _ (by omega)]; exact c
theorem Tryz.infoEn:(Tryz.prog.info? 89).map (fun i=>(i.zero,i.size,i.bytes))=some (some (.agg #[.string ⟨#[]⟩,.int .i64 0,.int .i64 0]),3,32):=by kernel_rfl
theorem ets_append (w:World) (base:Nat) (v:Value) (es:List En) (h:Ets w base v es) (B o m c:Nat) (fs:List En) (hm:fs.length=m) (hf:∀ j (hj:j < fs.length),Eb w B (o+j * 3) fs[j]) (hl:es.length+m≤4194304) (hbase:base≤w.heap.size) :
    ∃ ao cp w',(Builtin.append_ #[92,92] 92 #[v,.slice (some ⟨B,o,none⟩) m c]).run Tryz.prog w=.ok (.slice ao (es.length+m) cp) w'∧Ets w' base (.slice ao (es.length+m) cp) (es++fs)∧Only (fun j=>v.ownBlock=some j) w w'∧((Value.slice ao (es.length+m) cp).ownBlock=v.ownBlock∨(Value.slice ao (es.length+m) cp).ownBlock=some w.heap.size):=by
  obtain ⟨i0,hi,hz0,hz1,hz2⟩:=info_parts Tryz.infoEn
  obtain ⟨v',w',hr,h2,h3,_,h4⟩:=run_append_own_at (P:=Tryz.prog) w base 92 92 89 i0 (.agg #[.string ⟨#[]⟩,.int .i64 0,.int .i64 0]) 3 32 Tryz.underlying92 hi hz0 hz1 hz2 rfl (by decide) v es.length (ecs es) h ⟨B,o,none⟩ m c (ecs fs) (by rw [ecs_len,hm])
    (fun j u hu=>by
      have hj:j < fs.length * 3:=by
        have:=(List.getElem?_eq_some_iff.1 hu).1
        rwa [ecs_len] at this
      obtain ⟨q,r,rfl,hr⟩:∃ q r,j=q * 3+r∧r < 3:=⟨j / 3,j % 3,by omega,by omega⟩
      have hq:q < fs.length:=by omega
      obtain ⟨a1,a2,a3⟩:=ecs_get fs q hq
      have hE:=hf q hq
      rw [add_at,← Nat.add_assoc]
      match r,hr with
      | 0,_=>
        rw [Nat.add_zero] at hu ⊢
        rw [a1] at hu
        cases hu
        exact hE.c0
      | 1,_=>
        rw [a2] at hu
        cases hu
        exact hE.c1
      | 2,_=>
        rw [a3] at hu
        cases hu
        exact hE.c2) (ecs_one fs) (by unfold maxLen; omega) (by omega) hbase
  have e:Ets w' base v' (es++fs):=by
    unfold Ets
    rw [ecs_app,List.length_append,hm]
    exact h2
  obtain ⟨ao,cp,rfl⟩:=e.form
  rw [List.length_append,hm] at hr e h4
  exact ⟨ao,cp,w',hr,e,Only.grown h3 (fun j hj=>hj),h4⟩
theorem ets_made (n:Nat) (hn:n≤1048576):∃ O:Obj,(∀ W:World,(Instr.makeSlice 92 (.int .i64 0) (.int .i64 (n:Int))).run Tryz.prog W=.ok (.slice (some ⟨W.heap.size,0,none⟩) 0 n) (W.alloc O)) ∧
    (∀ (W:World) (base:Nat),base≤W.heap.size→Ets (W.alloc O) base (.slice (some ⟨W.heap.size,0,none⟩) 0 n) []):=by
  obtain ⟨i0,hi,hz0,hz1,hz2⟩:=info_parts Tryz.infoEn
  refine ⟨.cells (madeCells (Value.agg #[.string ⟨#[]⟩,.int .i64 0,.int .i64 0]).cells ((n:Int).toNat * i0.size)) 89,fun W=>?_,fun W base hb=>?_⟩
  · have h:=run_make (P:=Tryz.prog) W 92 89 i0 (.agg #[.string ⟨#[]⟩,.int .i64 0,.int .i64 0]) Tryz.underlying92 hi hz0 .i64 .i64 0 (n:Int) (by omega) (by omega) (by rw [hz2]; omega) (by omega)
    simpa using h
  · obtain ⟨w',hmk,hown,hgr⟩:=run_make_own (P:=Tryz.prog) W base 92 89 i0 (.agg #[.string ⟨#[]⟩,.int .i64 0,.int .i64 0]) 3 Tryz.underlying92 hi hz0 hz1 .i64 .i64 n (by rw [hz2]; omega) (by unfold maxLen; omega) hb
    have h:=run_make (P:=Tryz.prog) W 92 89 i0 (.agg #[.string ⟨#[]⟩,.int .i64 0,.int .i64 0]) Tryz.underlying92 hi hz0 .i64 .i64 0 (n:Int) (by omega) (by omega) (by rw [hz2]; omega) (by omega)
    rw [hmk] at h
    simp at h
    subst h
    exact hown
def ncs (ks:List Int):List Value:=ks.map fun k=>Value.int .i64 k
theorem ncs_len (ks:List Int):(ncs ks).length=ks.length:=by simp [ncs]
def Kts (w:World) (base:Nat) (v:Value) (ks:List Int):Prop:=w.ownsRow base 3 1 v ks.length (ncs ks)
theorem Kts.nil (w:World) (base:Nat):Kts w base (.slice none 0 0) []:=World.ownsRow_nil _ _ _ _
theorem Kts.kept {S:Nat→Prop} {w w':World} {base:Nat} {v:Value} {es:List Int} (h:Kts w base v es) (ho:Only S w w') (hS:∀ k,v.ownBlock=some k→¬ S k):Kts w' base v es:=by
  obtain ⟨h1,h2⟩:=h
  refine ⟨h1,?_⟩
  rcases h2 with h2 | ⟨g,cap,cur,hv,hg,hh,r⟩
  · exact .inl h2
  · subst hv
    exact .inr ⟨g,cap,cur,rfl,hg,by rw [ho.block g (Array.getElem?_eq_some_iff.1 hh).1 (hS g rfl)]; exact hh,r⟩
theorem Kts.more {w w':World} {base:Nat} {v:Value} {es:List Int} (h:Kts w base v es) (ho:Only (fun _=>False) w w'):Kts w' base v es:=h.kept ho (fun _ _ h=>h)
theorem Kts.form {w:World} {base:Nat} {v:Value} {es:List Int} (h:Kts w base v es):∃ ao cp,v=.slice ao es.length cp:=by
  rcases h.2 with ⟨rfl,h0⟩ | ⟨g,cap,cur,rfl,_⟩
  · exact ⟨none,0,by rw [h0]⟩
  · exact ⟨_,_,rfl⟩
theorem Kts.at_ {w:World} {base:Nat} {v:Value} {ks:List Int} (h:Kts w base v ks) (j:Nat) (hj:j < ks.length):∃ g cp,v=.slice (some ⟨g,0,none⟩) ks.length cp∧base≤g∧g < w.heap.size∧w.cell? ⟨g,j,none⟩=some (.int .i64 ks[j]):=by
  have h':=h
  rcases h.2 with ⟨rfl,h0⟩ | ⟨g,cap,cur,rfl,hb,hh,_⟩
  · omega
  · refine ⟨g,cap,rfl,hb,(Array.getElem?_eq_some_iff.1 hh).1,?_⟩
    rw [World.ownsRow.cellAt h' _ (by omega)]
    simp [ncs,hj]
theorem Tryz.infoIn:(Tryz.prog.info? 3).map (fun i=>(i.zero,i.size,i.bytes))=some (some (.int .i64 0),1,8):=by kernel_rfl
theorem kts_append (w:World) (base:Nat) (v:Value) (es:List Int) (h:Kts w base v es) (B:Nat) (k:Int) (hf:w.cell? ⟨B,0,none⟩=some (.int .i64 k)) (hl:es.length≤4194304) (hbase:base≤w.heap.size) :
    ∃ ao cp w',(Builtin.append_ #[38,38] 38 #[v,.slice (some ⟨B,0,none⟩) 1 1]).run Tryz.prog w=.ok (.slice ao (es.length+1) cp) w'∧Kts w' base (.slice ao (es.length+1) cp) (es++[k])∧Only (fun j=>v.ownBlock=some j) w w'∧((Value.slice ao (es.length+1) cp).ownBlock=v.ownBlock∨(Value.slice ao (es.length+1) cp).ownBlock=some w.heap.size):=by
  obtain ⟨i0,hi,hz0,hz1,hz2⟩:=info_parts Tryz.infoIn
  obtain ⟨v',w',hr,h2,h3,_,h4⟩:=run_append_own_at (P:=Tryz.prog) w base 38 38 3 i0 (.int .i64 0) 1 8 Tryz.underlying38 hi hz0 hz1 hz2 rfl (by decide) v es.length (ncs es) h ⟨B,0,none⟩ 1 1 (ncs [k]) rfl
    (fun j u hu=>by
      match j,hu with
      | 0,hu=>simp [ncs] at hu; subst hu; simpa [Addr.add] using hf) (by intro u hu; simp [ncs] at hu; subst hu; rfl) (by unfold maxLen; omega) (by omega) hbase
  have e:Kts w' base v' (es++[k]):=by
    unfold Kts
    rw [show ncs (es++[k])=ncs es++ncs [k] by simp [ncs],List.length_append]
    exact h2
  obtain ⟨ao,cp,rfl⟩:=e.form
  rw [List.length_append] at hr e h4
  exact ⟨ao,cp,w',hr,e,Only.grown h3 (fun j hj=>hj),h4⟩
theorem kts_made (n:Nat) (hn:n≤1048576):∃ O:Obj,(∀ W:World,(Instr.makeSlice 38 (.int .i64 0) (.int .i64 (n:Int))).run Tryz.prog W=.ok (.slice (some ⟨W.heap.size,0,none⟩) 0 n) (W.alloc O)) ∧
    (∀ (W:World) (base:Nat),base≤W.heap.size→Kts (W.alloc O) base (.slice (some ⟨W.heap.size,0,none⟩) 0 n) []):=by
  obtain ⟨i0,hi,hz0,hz1,hz2⟩:=info_parts Tryz.infoIn
  refine ⟨.cells (madeCells (Value.int .i64 0).cells ((n:Int).toNat * i0.size)) 3,fun W=>?_,fun W base hb=>?_⟩
  · have h:=run_make (P:=Tryz.prog) W 38 3 i0 (.int .i64 0) Tryz.underlying38 hi hz0 .i64 .i64 0 (n:Int) (by omega) (by omega) (by rw [hz2]; omega) (by omega)
    simpa using h
  · obtain ⟨w',hmk,hown,hgr⟩:=run_make_own (P:=Tryz.prog) W base 38 3 i0 (.int .i64 0) 1 Tryz.underlying38 hi hz0 hz1 .i64 .i64 n (by rw [hz2]; omega) (by unfold maxLen; omega) hb
    have h:=run_make (P:=Tryz.prog) W 38 3 i0 (.int .i64 0) Tryz.underlying38 hi hz0 .i64 .i64 0 (n:Int) (by omega) (by omega) (by rw [hz2]; omega) (by omega)
    rw [hmk] at h
    simp at h
    subst h
    exact hown
theorem load_eb {w:World} {b o:Nat} {e:En} (h:Eb w b o e):(loadVar 89 ⟨b,o,none⟩).run Tryz.prog w=.ok e.agg w:=by
  have c0:=h.c0
  have c1:=h.c1
  have c2:=h.c2
  simp [loadVar,go_sem,c0,c1,c2,En.agg]
theorem Ev.eb {w:World} {b:Nat} {e:En} (h:Ev w b e):Eb w b 0 e:=⟨h.c0,h.c1,h.c2,h.lt⟩
theorem yieldsIf_load_eb {ops:Array Oper} {S:World→Prop} {op:Oper} {a:Act} {e:En} (hw:Region.wanted op (yielded ops a.tmps)=true) (x:Operand) (ho:op.op=.load 89 x)
    {b o:Nat} (hx:a.eval x=.pointer (some ⟨b,o,none⟩)) (hS:∀ w,S w→Eb w b o e):YieldsIf Tryz.prog ops S op (.agg #[.string e.key,.int .i64 e.page,.int .i64 e.slot]) a :=
  .inl ⟨hw,fun w hw'=>by
    unfold execOp
    simp only [ho,hx,Instr.loadAt,Instr.sureAddr,Sem.run_bind,Sem.run_pure,Result.andThen_ok,load_eb (hS w hw'),En.agg]⟩
theorem yieldsIf_load_ev {ops:Array Oper} {S:World→Prop} {op:Oper} {a:Act} {e:En} (hw:Region.wanted op (yielded ops a.tmps)=true) (x:Operand) (ho:op.op=.load 89 x)
    {b:Nat} (hx:a.eval x=.pointer (some ⟨b,0,none⟩)) (hS:∀ w,S w→Ev w b e):YieldsIf Tryz.prog ops S op (.agg #[.string e.key,.int .i64 e.page,.int .i64 e.slot]) a :=
  yieldsIf_load_eb hw x ho hx (fun w h=>(hS w h).eb)
theorem yieldsIf_load_cv {ops:Array Oper} {S:World→Prop} {op:Oper} {a:Act} {a1 a2:Option Addr} {n1 n2 c1 c2:Nat} {e:En} (hw:Region.wanted op (yielded ops a.tmps)=true) (x:Operand) (ho:op.op=.load 164 x)
    {b:Nat} (hx:a.eval x=.pointer (some ⟨b,0,none⟩)) (hS:∀ w,S w→Cv w b (.slice a1 n1 c1) (.slice a2 n2 c2) e):YieldsIf Tryz.prog ops S op (.agg #[.slice a1 n1 c1,.slice a2 n2 c2,.string e.key,.int .i64 e.page,.int .i64 e.slot]) a :=
  .inl ⟨hw,fun w hw'=>by
    unfold execOp
    simp only [ho,hx,Instr.loadAt,Instr.sureAddr,Sem.run_bind,Sem.run_pure,Result.andThen_ok,load_cv (hS w hw'),cvv]⟩
theorem yieldsIf_load_page {ops:Array Oper} {S:World→Prop} {op:Oper} {a:Act} {v0 v1 v2 v3 v4 v5:Value} (hw:Region.wanted op (yielded ops a.tmps)=true) (x:Operand) (ho:op.op=.load 37 x)
    (b:Nat) (hx:a.eval x=.pointer (some ⟨b,0,none⟩)) (hS:∀ w,S w→Pag w b v0 v1 v2 v3 v4 v5):YieldsIf Tryz.prog ops S op (.agg #[v0,v1,v2,v3,v4,v5]) a :=
  .inl ⟨hw,fun w hw'=>by
    unfold execOp
    simp only [ho,hx,Instr.loadAt,Instr.sureAddr,Sem.run_bind,Sem.run_pure,Result.andThen_ok,load_page (hS w hw')]⟩
theorem ld_entries {w:World} {p:Addr} {v:Value} (h:w.cell? p=some v):(loadVar 92 p).run Tryz.prog w=.ok v w:=by simp [loadVar,go_sem,h]
theorem ld_ints {w:World} {p:Addr} {v:Value} (h:w.cell? p=some v):(loadVar 38 p).run Tryz.prog w=.ok v w:=by simp [loadVar,go_sem,h]
theorem En.lt_le {a b c:En} (h:a.lt b) (k:¬ c.lt b):a.lt c:=by
  by_cases e:b=c
  · rw [← e]; exact h
  · rcases En.lt_total e with l | l
    · exact En.lt_trans h l
    · exact absurd l k
theorem blw_yes {h e:En}:blw h e=true ↔ (h=noE∨e.lt h):=by unfold blw; simp
structure Nd where
  lv:Nat
  rt:Nat
  hi:En
  ks:List (En × Int)
instance:Inhabited Nd:=⟨⟨0,0,noE,[]⟩⟩
def Nd.es (x:Nd):List En:=x.ks.map Prod.fst
def itB (v:Nat) (k:En × Int):ByteArray:=if v=0 then k.1.enc else k.1.encS k.2
def Nd.items (x:Nd):List ByteArray:=x.ks.map (itB x.lv)
def hiB (h:En):ByteArray:=if h=noE then ⟨#[]⟩ else h.enc
def Nd.size (x:Nd):Nat:=20+(hiB x.hi).size+isz x.items
theorem Nd.es_len (x:Nd):x.es.length=x.ks.length:=by unfold Nd.es; simp
theorem Nd.items_len (x:Nd):x.items.length=x.ks.length:=by unfold Nd.items; simp
structure Nd.Ok (x:Nd) (lo:En):Prop where
  rise:Rise x.es
  hiok:x.hi=noE∨(x.hi.ok=true∧lo.lt x.hi)
  leaf:x.lv=0→∀ k ∈ x.ks,k.1.ok=true∧k.2=0∧lo.lt k.1∧byd x.hi k.1=false
  first:0 < x.lv→∃ c r,x.ks=(noE,c) :: r
  inner:0 < x.lv→∀ k ∈ x.ks.tail,k.1.ok=true∧lo.lt k.1∧blw x.hi k.1=true
  size:x.size≤512
def pg (N i:Nat):Prop:=1≤i∧i < N
def chK (ks:List (En × Int)) (e:En):Int:=(ks.getD (plE (ks.map Prod.fst) e - 1) (noE,0)).2
section Way
variable {N:Nat} {F:Nat→Nd} {lo:Nat→En} {A:En→Prop} {i:Nat} {e:En}
end Way
def insK (ks:List (En × Int)) (e:En) (c:Int):List (En × Int):=ks.take (plE (ks.map Prod.fst) e)++(e,c) :: ks.drop (plE (ks.map Prod.fst) e)
theorem insK_len (ks:List (En × Int)) (e:En) (c:Int):(insK ks e c).length=ks.length+1:=by
  have h:=congrArg List.length (List.take_append_drop (plE (ks.map Prod.fst) e) ks)
  unfold insK
  simp only [List.length_append,List.length_cons] at h ⊢
  omega
def Nd.ins (x:Nd) (e:En) (c:Int):Nd:={ x with ks:=insK x.ks e c }
theorem isz_mid (l:List ByteArray) (i:Nat) (s:ByteArray):isz (l.take i++s :: l.drop i)=isz l+(2+s.size):=by
  have h:=congrArg isz (List.take_append_drop i l)
  rw [isz_app] at h
  rw [isz_app,isz_cons]
  omega
theorem Nd.ins_items (x:Nd) (e:En) (c:Int):(x.ins e c).items=x.items.take (plE x.es e)++itB x.lv (e,c) :: x.items.drop (plE x.es e):=by
  unfold Nd.ins Nd.items insK Nd.es
  simp
theorem Nd.ins_size (x:Nd) (e:En) (c:Int):(x.ins e c).size=x.size+(2+(itB x.lv (e,c)).size):=by
  unfold Nd.size
  rw [Nd.ins_items,isz_mid]
  show 20+(hiB x.hi).size+_=_
  omega
theorem sev_small {n:Nat} (h:n≤65535):1≤(sev n).length∧(sev n).length≤3:=by
  unfold sev
  by_cases a:n < 128
  · rw [sevF_end a]; simp
  · rw [sevF_more a]
    by_cases b:n / 128 < 128
    · rw [sevF_end b]; simp
    · rw [sevF_more b,sevF_end (by omega)]; simp
theorem enc_bounds {e:En} (h:e.ok=true):4≤e.enc.size∧e.enc.size≤31:=by
  have h':=En.ok_iff.1 h
  have hb:e.enc.size=e.lay.length:=by rw [← bl_len e.enc,bl_enc]
  have t:=txL_len e.key (by omega)
  have a:=sev_small (n:=e.page.toNat) (by omega)
  have b:=sev_small (n:=e.slot.toNat) (by omega)
  rw [hb]
  unfold En.lay
  simp only [List.length_append]
  omega
theorem encS_bounds {e:En} {c:Int} (h:e.ok=true) (hc:okC c=true):5≤(e.encS c).size∧(e.encS c).size≤34:=by
  have hb:(e.encS c).size=e.lay.length+(sev c.toNat).length:=by rw [← bl_len (e.encS c),bl_encS]; unfold En.layS; simp
  have hb2:e.enc.size=e.lay.length:=by rw [← bl_len e.enc,bl_enc]
  have h1:=enc_bounds h
  have h2:=okC_iff.1 hc
  have a:=sev_small (n:=c.toNat) (by omega)
  omega
theorem noE_encS_size' (c:Int):(noE.encS c).size=3+(sev c.toNat).length:=by
  rw [← bl_len (noE.encS c),bl_encS]
  unfold En.layS
  rw [List.length_append,show noE.lay.length=3 by decide]
theorem encS_noE_bounds {c:Int} (hc:okC c=true):4≤(noE.encS c).size∧(noE.encS c).size≤6:=by
  have h2:=okC_iff.1 hc
  have a:=sev_small (n:=c.toNat) (by omega)
  rw [noE_encS_size']
  omega
theorem encS_noE_le {e:En} {c:Int} (h:e.ok=true):(noE.encS c).size≤(e.encS c).size:=by
  have hb:(e.encS c).size=e.lay.length+(sev c.toNat).length:=by rw [← bl_len (e.encS c),bl_encS]; unfold En.layS; simp
  have hb2:e.enc.size=e.lay.length:=by rw [← bl_len e.enc,bl_enc]
  have h1:=enc_bounds h
  rw [noE_encS_size']
  omega
theorem hiB_size {h:En} (x:h=noE∨h.ok=true):(hiB h).size≤31:=by
  unfold hiB
  by_cases k:h=noE
  · rw [if_pos k]; decide
  · rw [if_neg k]
    rcases x with x | x
    · exact absurd x k
    · exact (enc_bounds x).2
theorem isz_up {l:List ByteArray} {m:Nat} (h:∀ s ∈ l,s.size≤m):isz l≤(m+2) * l.length:=by
  induction l with
  | nil=>simp [isz_nil]
  | cons s l ih=>
    have a:=h s (List.mem_cons_self ..)
    have b:=ih (fun x hx=>h x (List.mem_cons_of_mem _ hx))
    rw [isz_cons,List.length_cons,Nat.mul_succ]
    omega
theorem isz_down {l:List ByteArray} {m:Nat} (h:∀ s ∈ l,m≤s.size):(m+2) * l.length≤isz l:=by
  induction l with
  | nil=>simp
  | cons s l ih=>
    have a:=h s (List.mem_cons_self ..)
    have b:=ih (fun x hx=>h x (List.mem_cons_of_mem _ hx))
    rw [isz_cons,List.length_cons,Nat.mul_succ]
    omega
def Nd.Kok (x:Nd):Prop:=0 < x.lv→∀ k ∈ x.ks,okC k.2=true
section Sizes
variable {x:Nd} {lo:En}
theorem Nd.Ok.leaf_up (h:x.Ok lo) (hv:x.lv=0) {l:List (En × Int)} (hl:∀ k ∈ l,k ∈ x.ks):6 * l.length≤isz (l.map (itB x.lv))∧isz (l.map (itB x.lv))≤33 * l.length:=by
  have a:∀ s ∈ l.map (itB x.lv),4≤s.size∧s.size≤31:=by
    intro s hs
    obtain ⟨k,hk,rfl⟩:=List.mem_map.1 hs
    unfold itB
    rw [if_pos hv]
    exact enc_bounds (h.leaf hv k (hl k hk)).1
  have b:=isz_up (fun s hs=>(a s hs).2)
  have c:=isz_down (fun s hs=>(a s hs).1)
  rw [List.length_map] at b c
  exact ⟨c,b⟩
theorem Nd.Ok.inner_up (h:x.Ok lo) (hk:x.Kok) (hv:0 < x.lv) {l:List (En × Int)} (hl:∀ k ∈ l,k ∈ x.ks.tail):7 * l.length≤isz (l.map (itB x.lv))∧isz (l.map (itB x.lv))≤36 * l.length:=by
  have a:∀ s ∈ l.map (itB x.lv),5≤s.size∧s.size≤34:=by
    intro s hs
    obtain ⟨k,hkk,rfl⟩:=List.mem_map.1 hs
    unfold itB
    rw [if_neg (by omega)]
    exact encS_bounds (h.inner hv k (hl k hkk)).1 (hk hv k (List.mem_of_mem_tail (hl k hkk)))
  have b:=isz_up (fun s hs=>(a s hs).2)
  have c:=isz_down (fun s hs=>(a s hs).1)
  rw [List.length_map] at b c
  exact ⟨c,b⟩
theorem Nd.Ok.few (h:x.Ok lo) (hk:x.Kok):x.ks.length≤82:=by
  have hs:=h.size
  unfold Nd.size Nd.items at hs
  rcases Nat.eq_zero_or_pos x.lv with v | v
  · have a:=(h.leaf_up v (fun k hk=>hk)).1
    omega
  · obtain ⟨c,r,hr⟩:=h.first v
    have a:=(h.inner_up hk v (l:=r) (fun k hk=>by rw [hr]; exact hk)).1
    have b:=encS_noE_bounds (c:=c) (hk v (noE,c) (by rw [hr]; exact List.mem_cons_self ..))
    rw [hr,List.map_cons,isz_cons] at hs
    have d:itB x.lv (noE,c)=noE.encS c:=by unfold itB; rw [if_neg (by omega)]
    rw [d] at hs
    rw [hr,List.length_cons]
    omega
theorem item_up {v:Nat} {e:En} {c:Int} (he:e.ok=true) (hc:0 < v→okC c=true):2+(itB v (e,c)).size≤36∧(v=0→2+(itB v (e,c)).size≤33):=by
  unfold itB
  by_cases hv:v=0
  · rw [if_pos hv]
    have h:=enc_bounds he
    show 2+e.enc.size≤36∧(v=0→2+e.enc.size≤33)
    exact ⟨by omega,fun _=>by omega⟩
  · rw [if_neg hv]
    have h:=encS_bounds he (hc (by omega))
    show 2+(e.encS c).size≤36∧(v=0→2+(e.encS c).size≤33)
    exact ⟨by omega,fun z=>absurd z hv⟩
theorem Nd.Ok.full (h:x.Ok lo) (hk:x.Kok) {e:En} {c:Int} (he:e.ok=true) (hc:0 < x.lv→okC c=true) (hf:512 < x.size+(2+(itB x.lv (e,c)).size)):13≤x.ks.length∧(x.hi=noE→14≤x.ks.length):=by
  obtain ⟨hu1,hu2⟩:=item_up (v:=x.lv) he hc
  obtain ⟨T,hT⟩:=exq ((itB x.lv (e,c)).size)
  rw [hT] at hu1 hu2 hf
  have hh:(hiB x.hi).size≤31:=hiB_size (by rcases h.hiok with y | y; exact .inl y; exact .inr y.1)
  have hz:x.hi=noE→(hiB x.hi).size=0:=fun y=>by rw [y]; decide
  unfold Nd.size Nd.items at hf
  rcases Nat.eq_zero_or_pos x.lv with v | v
  · have a:=(h.leaf_up v (fun k hk=>hk)).2
    have b:=hu2 v
    exact ⟨by omega,fun y=>by have:=hz y; omega⟩
  · obtain ⟨d,r,hr⟩:=h.first v
    have a:=(h.inner_up hk v (l:=r) (fun k hk=>by rw [hr]; exact hk)).2
    have b:=encS_noE_bounds (c:=d) (hk v (noE,d) (by rw [hr]; exact List.mem_cons_self ..))
    rw [hr,List.map_cons,isz_cons] at hf
    have q:itB x.lv (noE,d)=noE.encS d:=by unfold itB; rw [if_neg (by omega)]
    rw [q] at hf
    rw [hr,List.length_cons]
    exact ⟨by omega,fun y=>by have:=hz y; omega⟩
end Sizes
def Nd.half (x:Nd):Nat:=(x.ks.length+1) / 2
def Nd.bord (x:Nd):En:=if x.lv=0 then (x.ks.getD (x.half - 1) (noE,0)).1 else (x.ks.getD x.half (noE,0)).1
def Nd.left (x:Nd) (j:Nat):Nd:=⟨x.lv,j,x.bord,x.ks.take x.half⟩
def Nd.rest (x:Nd):List (En × Int):=if x.lv=0 then x.ks.drop x.half else (noE,(x.ks.getD x.half (noE,0)).2) :: x.ks.drop (x.half+1)
def Nd.right (x:Nd):Nd:=⟨x.lv,x.rt,x.hi,x.rest⟩
section Halves
variable {x:Nd} {lo:En}
theorem Nd.half_lt (hn:2≤x.ks.length):1≤x.half∧x.half < x.ks.length:=by unfold Nd.half; omega
theorem rise_at {es:List En} (h:Rise es) {i j:Nat} (hj:j < es.length) (hij:i < j):(es[i]'(by omega)).lt es[j]:=List.pairwise_iff_getElem.1 h i j (by omega) hj hij
theorem Nd.rise_ks (h:Rise x.es) {i j:Nat} (hj:j < x.ks.length) (hij:i < j):(x.ks[i]'(by omega)).1.lt x.ks[j].1:=by
  have:=rise_at h (i:=i) (j:=j) (by rw [Nd.es_len]; exact hj) hij
  unfold Nd.es at this
  simpa using this
theorem Nd.bord_leaf (hv:x.lv=0) (hn:2≤x.ks.length):∃ h:x.half - 1 < x.ks.length,x.bord=(x.ks[x.half - 1]).1:=by
  have:=Nd.half_lt hn
  refine ⟨by omega,?_⟩
  unfold Nd.bord
  rw [if_pos hv,List.getD_eq_getElem?_getD,List.getElem?_eq_getElem (by omega),Option.getD_some]
theorem Nd.bord_inner (hv:0 < x.lv) (hn:2≤x.ks.length):∃ h:x.half < x.ks.length,x.bord=(x.ks[x.half]).1:=by
  have:=Nd.half_lt hn
  refine ⟨by omega,?_⟩
  unfold Nd.bord
  rw [if_neg (by omega),List.getD_eq_getElem?_getD,List.getElem?_eq_getElem (by omega),Option.getD_some]
theorem Nd.mem_tail {i:Nat} (h1:1≤i) (h:i < x.ks.length):x.ks[i] ∈ x.ks.tail:=by
  rw [List.mem_iff_getElem]
  refine ⟨i - 1,by simp; omega,?_⟩
  rw [List.getElem_tail]
  congr 1
  omega
theorem Nd.Ok.bord (h:x.Ok lo) (hn:2≤x.ks.length):x.bord.ok=true∧lo.lt x.bord∧(x.hi=noE∨x.bord.lt x.hi):=by
  have hh:=Nd.half_lt hn
  rcases Nat.eq_zero_or_pos x.lv with v | v
  · obtain ⟨h1,hb⟩:=Nd.bord_leaf v hn
    obtain ⟨a,_,b,c⟩:=h.leaf v _ (List.getElem_mem h1)
    obtain ⟨_,_,_,c2⟩:=h.leaf v _ (List.getElem_mem hh.2)
    have d:=Nd.rise_ks h.rise hh.2 (i:=x.half - 1) (by omega)
    rw [hb]
    refine ⟨a,b,?_⟩
    rcases byd_no.1 c2 with k | k
    · exact .inl k
    · exact .inr (En.lt_le d k)
  · obtain ⟨h1,hb⟩:=Nd.bord_inner v hn
    obtain ⟨a,b,c⟩:=h.inner v _ (Nd.mem_tail hh.1 h1)
    rw [hb]
    exact ⟨a,b,blw_yes.1 c⟩
theorem Nd.left_mem {k:En × Int} (h:k ∈ x.ks.take x.half):k ∈ x.ks:=List.mem_of_mem_take h
theorem Nd.half_sum (x:Nd):isz ((x.ks.take x.half).map (itB x.lv))+isz ((x.ks.drop x.half).map (itB x.lv))=isz x.items:=by
  rw [← isz_app,← List.map_append,List.take_append_drop]
  rfl
theorem Nd.Ok.left_size (h:x.Ok lo) (hk:x.Kok) (hn:2≤x.ks.length) (j:Nat):(x.left j).size+(if x.lv=0 then 33 else 36)≤512:=by
  have hh:=Nd.half_lt hn
  have hb:=(enc_bounds (h.bord hn).1).2
  have hB:(hiB x.bord).size≤31:=hiB_size (.inr (h.bord hn).1)
  have hs:=h.size
  have sm:=Nd.half_sum x
  unfold Nd.size at hs ⊢
  show 20+(hiB x.bord).size+isz ((x.ks.take x.half).map (itB x.lv))+_≤512
  have lt:(x.ks.take x.half).length=x.half:=by rw [List.length_take]; omega
  have ld:(x.ks.drop x.half).length=x.ks.length - x.half:=List.length_drop
  have hf:x.half≤x.ks.length - x.half+1:=by unfold Nd.half; omega
  rcases Nat.eq_zero_or_pos x.lv with v | v
  · rw [if_pos v]
    have a:=(h.leaf_up v (l:=x.ks.take x.half) (fun k=>Nd.left_mem)).2
    have b:=(h.leaf_up v (l:=x.ks.drop x.half) (fun k=>List.mem_of_mem_drop)).1
    rw [lt] at a
    rw [ld] at b
    omega
  · rw [if_neg (by omega)]
    obtain ⟨c,r,hr⟩:=h.first v
    have q:itB x.lv (noE,c)=noE.encS c:=by unfold itB; rw [if_neg (by omega)]
    have e0:=encS_noE_bounds (c:=c) (hk v (noE,c) (by rw [hr]; exact List.mem_cons_self ..))
    have tk:x.ks.take x.half=(noE,c) :: r.take (x.half - 1):=by
      rw [hr]
      obtain ⟨m,hm⟩:∃ m,x.half=m+1:=⟨x.half - 1,by omega⟩
      rw [hm]; rfl
    have a:=(h.inner_up hk v (l:=r.take (x.half - 1)) (fun k hk=>by rw [hr]; exact List.mem_of_mem_take hk)).2
    have b:=(h.inner_up hk v (l:=x.ks.drop x.half) (fun k hkk=>by
      obtain ⟨i,hi,rfl⟩:=List.mem_drop_iff_getElem.1 hkk
      exact Nd.mem_tail (by omega) (by omega))).1
    rw [ld] at b
    have lr:(r.take (x.half - 1)).length≤x.half - 1:=by rw [List.length_take]; omega
    rw [tk,List.map_cons,isz_cons,q] at sm ⊢
    omega
theorem Nd.Ok.right_size (h:x.Ok lo) (hk:x.Kok) (hn:2≤x.ks.length):x.right.size≤512∧(12≤x.ks.length→x.right.size+36≤512):=by
  have hh:=Nd.half_lt hn
  have hs:=h.size
  have sm:=Nd.half_sum x
  unfold Nd.size at hs ⊢
  show 20+(hiB x.hi).size+isz (x.rest.map (itB x.lv))≤512∧(12≤x.ks.length→20+(hiB x.hi).size+isz (x.rest.map (itB x.lv))+36≤512)
  have lt:(x.ks.take x.half).length=x.half:=by rw [List.length_take]; omega
  have hf:12≤x.ks.length→6≤x.half:=fun y=>by unfold Nd.half; omega
  rcases Nat.eq_zero_or_pos x.lv with v | v
  · have a:=(h.leaf_up v (l:=x.ks.take x.half) (fun k=>Nd.left_mem)).1
    rw [lt] at a
    unfold Nd.rest
    rw [if_pos v]
    exact ⟨by omega,fun y=>by have:=hf y; omega⟩
  · obtain ⟨c,r,hr⟩:=h.first v
    have q:itB x.lv (noE,c)=noE.encS c:=by unfold itB; rw [if_neg (by omega)]
    have e0:=encS_noE_bounds (c:=c) (hk v (noE,c) (by rw [hr]; exact List.mem_cons_self ..))
    have tk:x.ks.take x.half=(noE,c) :: r.take (x.half - 1):=by
      rw [hr]
      obtain ⟨m,hm⟩:∃ m,x.half=m+1:=⟨x.half - 1,by omega⟩
      rw [hm]; rfl
    have a:=(h.inner_up hk v (l:=r.take (x.half - 1)) (fun k hk=>by rw [hr]; exact List.mem_of_mem_take hk)).1
    have lr:(r.take (x.half - 1)).length=x.half - 1:=by
      have:x.ks.length=r.length+1:=by rw [hr]; rfl
      rw [List.length_take]; omega
    rw [lr] at a
    have dr:x.ks.drop x.half=x.ks[x.half] :: x.ks.drop (x.half+1):=List.drop_eq_getElem_cons hh.2
    have q2:itB x.lv x.ks[x.half]=(x.ks[x.half]).1.encS (x.ks[x.half]).2:=by unfold itB; rw [if_neg (by omega)]
    have le:=encS_noE_le (c:=(x.ks[x.half]).2) (h.inner v _ (Nd.mem_tail hh.1 hh.2)).1
    have q3:itB x.lv (noE,(x.ks[x.half]).2)=noE.encS (x.ks[x.half]).2:=by unfold itB; rw [if_neg (by omega)]
    have gd:(x.ks.getD x.half (noE,0))=x.ks[x.half]:=by rw [List.getD_eq_getElem?_getD,List.getElem?_eq_getElem hh.2,Option.getD_some]
    rw [tk,List.map_cons,isz_cons,q,dr,List.map_cons,isz_cons,q2] at sm
    unfold Nd.rest
    rw [if_neg (by omega),gd,List.map_cons,isz_cons,q3]
    exact ⟨by omega,fun y=>by have:=hf y; omega⟩
theorem Nd.Ok.left (h:x.Ok lo) (hk:x.Kok) (hn:2≤x.ks.length) (j:Nat):(x.left j).Ok lo:=by
  have hh:=Nd.half_lt hn
  have hb:=h.bord hn
  have hsz:=h.left_size hk hn j
  refine ⟨?_,.inr ⟨hb.1,hb.2.1⟩,?_,?_,?_,by omega⟩
  · show Rise ((x.ks.take x.half).map Prod.fst)
    exact h.rise.sublist ((List.take_sublist _ _).map _)
  · intro v k hkk
    obtain ⟨a,b,c,_⟩:=h.leaf v k (Nd.left_mem hkk)
    refine ⟨a,b,c,byd_no.2 (.inr ?_)⟩
    show ¬ x.bord.lt k.1
    obtain ⟨h1,e⟩:=Nd.bord_leaf (x:=x) v hn
    rw [e]
    obtain ⟨i,hi,rfl⟩:=List.mem_take_iff_getElem.1 hkk
    intro l
    rcases Nat.lt_or_ge i (x.half - 1) with z | z
    · exact En.lt_asymm l (Nd.rise_ks h.rise h1 z)
    · have:i=x.half - 1:=by omega
      subst this
      exact En.lt_irrefl _ l
  · intro v
    obtain ⟨c,r,hr⟩:=h.first v
    refine ⟨c,r.take (x.half - 1),?_⟩
    show x.ks.take x.half=_
    rw [hr]
    obtain ⟨m,hm⟩:∃ m,x.half=m+1:=⟨x.half - 1,by omega⟩
    rw [hm]; rfl
  · intro v k hkk
    have hkk':k ∈ (x.ks.take x.half).tail:=hkk
    have ht:k ∈ x.ks.tail∧∃ i,∃ hi:i < x.ks.length,i < x.half∧k=x.ks[i]:=by
      obtain ⟨i,hi,rfl⟩:=List.mem_iff_getElem.1 hkk'
      rw [List.length_tail,List.length_take] at hi
      rw [List.getElem_tail,List.getElem_take]
      exact ⟨Nd.mem_tail (by omega) (by omega),i+1,by omega,by omega,rfl⟩
    obtain ⟨t,i,hi,hi2,rfl⟩:=ht
    obtain ⟨a,b,_⟩:=h.inner v _ t
    refine ⟨a,b,blw_yes.2 (.inr ?_)⟩
    obtain ⟨h1,e⟩:=Nd.bord_inner (x:=x) v hn
    show (x.ks[i]).1.lt x.bord
    rw [e]
    exact Nd.rise_ks h.rise h1 hi2
theorem Nd.rest_inner (hv:0 < x.lv) (hn:2≤x.ks.length):∃ h:x.half < x.ks.length,x.rest=(noE,(x.ks[x.half]).2) :: x.ks.drop (x.half+1):=by
  have hh:=Nd.half_lt hn
  refine ⟨hh.2,?_⟩
  unfold Nd.rest
  rw [if_neg (by omega),List.getD_eq_getElem?_getD,List.getElem?_eq_getElem hh.2,Option.getD_some]
theorem Nd.Ok.right (h:x.Ok lo) (hk:x.Kok) (hn:2≤x.ks.length):x.right.Ok x.bord:=by
  have hh:=Nd.half_lt hn
  have hb:=h.bord hn
  refine ⟨?_,?_,?_,?_,?_,(h.right_size hk hn).1⟩
  · show Rise (x.rest.map Prod.fst)
    rcases Nat.eq_zero_or_pos x.lv with v | v
    · unfold Nd.rest
      rw [if_pos v]
      exact h.rise.sublist ((List.drop_sublist _ _).map _)
    · obtain ⟨h1,e⟩:=Nd.rest_inner v hn
      rw [e,List.map_cons]
      refine List.pairwise_cons.2 ⟨?_,h.rise.sublist ((List.drop_sublist _ _).map _)⟩
      intro y hy
      obtain ⟨k,hkk,rfl⟩:=List.mem_map.1 hy
      obtain ⟨i,hi,rfl⟩:=List.mem_drop_iff_getElem.1 hkk
      exact noE_lt (h.inner v _ (Nd.mem_tail (by omega) (by omega))).1
  · rcases h.hiok with y | y
    · exact .inl y
    · refine .inr ⟨y.1,?_⟩
      rcases hb.2.2 with z | z
      · exact absurd z (En.ok_ne y.1)
      · exact z
  · intro v k hkk
    have hkk':k ∈ x.rest:=hkk
    have v':x.lv=0:=v
    unfold Nd.rest at hkk'
    rw [if_pos v'] at hkk'
    obtain ⟨a,b,_,c⟩:=h.leaf v' k (List.mem_of_mem_drop hkk')
    refine ⟨a,b,?_,c⟩
    obtain ⟨h1,e⟩:=Nd.bord_leaf v' hn
    rw [e]
    obtain ⟨i,hi,rfl⟩:=List.mem_drop_iff_getElem.1 hkk'
    exact Nd.rise_ks h.rise (by omega) (by omega)
  · intro v
    obtain ⟨h1,e⟩:=Nd.rest_inner (x:=x) v hn
    exact ⟨_,_,e⟩
  · intro v k hkk
    have v':0 < x.lv:=v
    obtain ⟨h1,e⟩:=Nd.rest_inner v' hn
    have hkk':k ∈ x.rest.tail:=hkk
    rw [e] at hkk'
    obtain ⟨i,hi,rfl⟩:=List.mem_drop_iff_getElem.1 (show k ∈ x.ks.drop (x.half+1) from hkk')
    obtain ⟨a,b,c⟩:=h.inner v' _ (Nd.mem_tail (i:=x.half+1+i) (by omega) (by omega))
    refine ⟨a,?_,c⟩
    obtain ⟨h2,e2⟩:=Nd.bord_inner v' hn
    rw [e2]
    exact Nd.rise_ks h.rise (by omega) (by omega)
end Halves
def putL (l:List ByteArray) (i:Nat) (s:ByteArray):List ByteArray:=l.take i++s :: l.drop (i+1)
def fitL (h:ByteArray) (L:List ByteArray):Bool:=decide (h.size≤255∧L.length≤255∧20+h.size+isz L≤512)
theorem fitL_iff {h:ByteArray} {L:List ByteArray}:fitL h L=true ↔ (h.size≤255∧L.length≤255∧20+h.size+isz L≤512):=by unfold fitL; simp
theorem fitL_no {h:ByteArray} {L:List ByteArray}:fitL h L=false ↔ ¬ (h.size≤255∧L.length≤255∧20+h.size+isz L≤512):=by unfold fitL; simp only [decide_eq_false_iff_not]
def szV (h:ByteArray) (L:List ByteArray):Int:=if fitL h L then ((20+h.size+isz L:Nat):Int) else 0
def szE (h:ByteArray) (L:List ByteArray):Int:=if fitL h L then 0 else 121
theorem szE_fit {h:ByteArray} {L:List ByteArray} (hf:fitL h L=true):szE h L=0:=by unfold szE; rw [hf]; rfl
theorem szE_no {h:ByteArray} {L:List ByteArray} (hf:fitL h L=false):szE h L=121:=by unfold szE; rw [hf]; rfl
structure Hr where
  kind:Int
  xid:Int
  page:Int
  slot:Int
  old:Int
  new:Int
  data:ByteArray
abbrev Hr.none:Hr:=⟨0,0,0,0,0,0,⟨#[]⟩⟩
abbrev Hr.cells (r:Hr):Array Value :=
  #[.int .i64 0,.int .i64 0,.int .i64 0,.int .u8 r.kind,.int .i64 r.xid,.int .i64 r.page,.int .i64 r.slot,.int .i64 r.old,.int .i64 r.new,.int .i64 0,.string r.data,
    .slice Option.none 0 0,.slice Option.none 0 0,.slice Option.none 0 0,.slice Option.none 0 0,.slice Option.none 0 0]
def Hr.cl (r:Hr):List Value:=r.cells.toList
theorem Tryz.sizeRecH:(Tryz.prog.info? 50).map (·.size)=some 16:=by kernel_rfl
theorem only_setCellsH (b:Nat) (vs:List Value) (o:Nat) (w:World):Only (fun k=>k=b) w (w.setCells b o vs):=by
  induction vs generalizing o w with
  | nil=>exact Only.refl _ _
  | cons v r ih=>
    rw [World.setCells]
    exact (Only.setCell (S:=fun k=>k=b) w ⟨b,o,none⟩ v rfl).trans (ih (o+1) _) (fun _ _ h=>h)
structure Hb (w:World) (b:Nat) (r:Hr):Prop where
  range:w.rangeAt b 0 r.cl
  there:w.there b 0 16
  lt:b < w.heap.size
theorem Hb.new (w:World) (r:Hr):Hb (w.alloc (.cells r.cells 50)) w.heap.size r :=
  ⟨fun j v hv=>by rw [Nat.zero_add]; simpa [Hr.cl] using hv,fun j hj=>by rw [Nat.zero_add]; exact ⟨by simpa using hj,by simp⟩,by simp⟩
theorem Hb.kept {S:Nat→Prop} {w w':World} {b:Nat} {r:Hr} (h:Hb w b r) (ho:Only S w w') (hS:¬ S b):Hb w' b r :=
  ⟨fun j v hv=>(ho.cell (p:=⟨b,0+j,none⟩) h.lt hS).trans (h.range j v hv),fun j hj=>by
    obtain ⟨h1,h2⟩:=h.there j hj
    exact ⟨by rw [ho.cell (p:=⟨b,0+j,none⟩) h.lt hS]; exact h1,by rw [ho.frozen (p:=⟨b,0+j,none⟩) h.lt hS]; exact h2⟩,Nat.lt_of_lt_of_le h.lt ho.size⟩
theorem Hb.more {w w':World} {b:Nat} {r:Hr} (h:Hb w b r) (ho:Only (fun _=>False) w w'):Hb w' b r:=h.kept ho (fun h=>h)
theorem Hb.load {w:World} {b:Nat} {r:Hr} (h:Hb w b r):(loadVar 50 ⟨b,0,none⟩).run Tryz.prog w=.ok (.agg r.cells) w :=
  run_loadVar_mid (P:=Tryz.prog) w b 0 50 r.cl _ h.range Tryz.underlying50 rfl Tryz.sizeRecH
theorem Hb.set {w:World} {b:Nat} {q:Hr} (h:Hb w b q) (r:Hr):Hb (w.setCells b 0 r.cl) b r∧Only (fun k=>k=b) w (w.setCells b 0 r.cl):=by
  have hr:=World.rangeAt_setCells_same w b 0 r.cl (h.there)
  have hs:(w.setCells b 0 r.cl).heap.size=w.heap.size:=by
    have go:∀ (vs:List Value) (o:Nat) (w:World),(w.setCells b o vs).heap.size=w.heap.size:=by
      intro vs
      induction vs with
      | nil=>intro o w; rfl
      | cons v r ih=>intro o w; rw [World.setCells,ih]; simp
    exact go _ _ _
  have hf:∀ (vs:List Value) (o:Nat) (w:World) (p:Addr),(w.setCells b o vs).frozen? p=w.frozen? p:=by
    intro vs
    induction vs with
    | nil=>intro o w p; rfl
    | cons v r ih=>intro o w p; rw [World.setCells,ih]; simp
  refine ⟨⟨hr,fun j hj=>?_,by rw [hs]; exact h.lt⟩,only_setCellsH _ _ _ _⟩
  have hj':j < r.cl.length:=hj
  exact ⟨by rw [hr j _ (List.getElem?_eq_getElem hj')]; rfl,by rw [hf]; exact (h.there j hj).2⟩
structure StoH (w W:World) (b:Nat) (r:Hr):Prop where
  only:Only (fun k=>k=b) w W
  at_:Hb W b r
section
variable {ops:Array Oper} {rest:List Oper} {o:Oper} {a:Act} {w:World} {Q:Exit→Act→World→Prop}
theorem wpList_put_hr (hg:o.guard=none) (x y:Operand) (hop:o.op=.store 50 x y) (b:Nat) (hx:a.eval x=.pointer (some ⟨b,0,none⟩)) (q r:Hr) (hy:a.eval y=.agg r.cells) (hc:Hb w b q)
    (h:∀ W,Hid (StoH w W b r)→wpList Tryz.prog ops Q rest (a.put o.dst undef) W):wpList Tryz.prog ops Q (o :: rest) a w :=
  wpList_store_mid hg 50 x y hop b 0 r.cells hx hy hc.there Tryz.sizeRecH (by simp [Value.oneCell']) (h _ ⟨(hc.set r).2,(hc.set r).1⟩)
end
theorem run_build_hnone (w:World):(Instr.build 50 #[]).run Tryz.prog w=.ok (.agg Hr.none.cells) w:=run_build w 50 #[] _ (by kernel_rfl)
section
variable {ops:Array Oper} {rest:List Oper} {o:Oper} {a:Act} {w:World} {Q:Exit→Act→World→Prop}
theorem wpList_build_hnone (hg:o.guard=none) (hop:o.op=.build 50 #[]) (h:wpList Tryz.prog ops Q rest (a.put o.dst (.agg Hr.none.cells)) w):wpList Tryz.prog ops Q (o :: rest) a w:=by
  refine wpList_plain hg fun K hK=>?_
  unfold Oper.wp execOp
  simp only [hop,Array.map_empty,Sem.run_bind,Sem.run_pure,Result.andThen_ok,run_build_hnone]
  exact hK _ _ h
end
theorem run_build_ins (w:World) (x p s:Int) (d:ByteArray):(Instr.build 50 #[(3,.int .u8 1),(4,.int .i64 x),(5,.int .i64 p),(6,.int .i64 s),(10,.string d)]).run Tryz.prog w=.ok (.agg (Hr.cells ⟨1,x,p,s,0,0,d⟩)) w:=run_build w 50 _ _ (by kernel_rfl)
theorem run_build_mark (w:World) (x p s o n:Int):(Instr.build 50 #[(3,.int .u8 2),(4,.int .i64 x),(5,.int .i64 p),(6,.int .i64 s),(7,.int .i64 o),(8,.int .i64 n)]).run Tryz.prog w=.ok (.agg (Hr.cells ⟨2,x,p,s,o,n,⟨#[]⟩⟩)) w:=run_build w 50 _ _ (by kernel_rfl)
section
variable {ops:Array Oper} {rest:List Oper} {o:Oper} {a:Act} {w:World} {Q:Exit→Act→World→Prop}
theorem wpList_build_ins (hg:o.guard=none) (a4 a5 a6 a10:Operand) (hop:o.op=.build 50 #[(3,.const (.int .u8 1)),(4,a4),(5,a5),(6,a6),(10,a10)]) (x p s:Int) (d:ByteArray) (h4:a.eval a4=.int .i64 x) (h5:a.eval a5=.int .i64 p) (h6:a.eval a6=.int .i64 s) (h10:a.eval a10=.string d)
    (h:wpList Tryz.prog ops Q rest (a.put o.dst (.agg (Hr.cells ⟨1,x,p,s,0,0,d⟩))) w):wpList Tryz.prog ops Q (o :: rest) a w:=by
  refine wpList_plain hg fun K hK=>?_
  unfold Oper.wp execOp
  have e:(#[(3,Operand.const (.int .u8 1)),(4,a4),(5,a5),(6,a6),(10,a10)]:Array (Nat × Operand)).map (fun x=>(x.1,a.eval x.2))=#[(3,.int .u8 1),(4,.int .i64 x),(5,.int .i64 p),(6,.int .i64 s),(10,.string d)]:=by
    simp only [List.map_toArray,List.map_cons,List.map_nil,h4,h5,h6,h10]
    rfl
  simp only [hop,e,Sem.run_bind,Sem.run_pure,Result.andThen_ok,run_build_ins]
  exact hK _ _ h
theorem wpList_build_mark (hg:o.guard=none) (a4 a5 a6 a7 a8:Operand) (hop:o.op=.build 50 #[(3,.const (.int .u8 2)),(4,a4),(5,a5),(6,a6),(7,a7),(8,a8)]) (x p s u n:Int) (h4:a.eval a4=.int .i64 x) (h5:a.eval a5=.int .i64 p) (h6:a.eval a6=.int .i64 s) (h7:a.eval a7=.int .i64 u) (h8:a.eval a8=.int .i64 n)
    (h:wpList Tryz.prog ops Q rest (a.put o.dst (.agg (Hr.cells ⟨2,x,p,s,u,n,⟨#[]⟩⟩))) w):wpList Tryz.prog ops Q (o :: rest) a w:=by
  refine wpList_plain hg fun K hK=>?_
  unfold Oper.wp execOp
  have e:(#[(3,Operand.const (.int .u8 2)),(4,a4),(5,a5),(6,a6),(7,a7),(8,a8)]:Array (Nat × Operand)).map (fun x=>(x.1,a.eval x.2))=#[(3,.int .u8 2),(4,.int .i64 x),(5,.int .i64 p),(6,.int .i64 s),(7,.int .i64 u),(8,.int .i64 n)]:=by
    simp only [List.map_toArray,List.map_cons,List.map_nil,h4,h5,h6,h7,h8]
    rfl
  simp only [hop,e,Sem.run_bind,Sem.run_pure,Result.andThen_ok,run_build_mark]
  exact hK _ _ h
end
theorem results_hr {fn:Func} {p u:Tmp} (h:fn.results=#[.cell p 50,.tmp u]) {tmps:Array Value} {w:World} {b:Nat} {r:Hr} (hp:tmps.getD p undef=.pointer (some ⟨b,0,none⟩)) (hP:Hb w b r) :
    (results fn tmps).run Tryz.prog w=.ok (.tuple #[.agg r.cells,tmps.getD u undef]) w:=by
  have e:(asAddr (.pointer (some ⟨b,0,none⟩))).run Tryz.prog w=.ok ⟨b,0,none⟩ w:=rfl
  rw [results_cell_tmp h,hp,e]
  simp only [Result.andThen,hP.load]
end Go.Proofs.YtajjakljheafjaaGreat
