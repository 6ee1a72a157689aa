/- Parts. -/
import Derived.Test.YtipkeeobmihogaaGreatK06
set_option maxRecDepth 100000
namespace Go.Proofs.YtipkeeobmihogaaGreat
open Go.RowKit
structure Cv (w:World) (b:Nat) (es ks:Value) (h:En):Prop where
  c0:w.cell? ⟨b,0,none⟩=some es
  c1:w.cell? ⟨b,1,none⟩=some ks
  c2:w.cell? ⟨b,2,none⟩=some (.string h.key)
  c3:w.cell? ⟨b,3,none⟩=some (.int .i64 h.page)
  c4:w.cell? ⟨b,4,none⟩=some (.int .i64 h.slot)
  f0:w.frozen? ⟨b,0,none⟩=false
  f1:w.frozen? ⟨b,1,none⟩=false
  f2:w.frozen? ⟨b,2,none⟩=false
  f3:w.frozen? ⟨b,3,none⟩=false
  f4:w.frozen? ⟨b,4,none⟩=false
  lt:b < w.heap.size
theorem Cv.kept {S:Nat→Prop} {w w':World} {b:Nat} {es ks:Value} {h:En} (x:Cv w b es ks h) (ho:Only S w w') (hS:¬ S b):Cv w' b es ks h :=
  ⟨(ho.cell (p:=⟨b,0,none⟩) x.lt hS).trans x.c0,(ho.cell (p:=⟨b,1,none⟩) x.lt hS).trans x.c1,(ho.cell (p:=⟨b,2,none⟩) x.lt hS).trans x.c2,(ho.cell (p:=⟨b,3,none⟩) x.lt hS).trans x.c3,(ho.cell (p:=⟨b,4,none⟩) x.lt hS).trans x.c4,
   (ho.frozen (p:=⟨b,0,none⟩) x.lt hS).trans x.f0,(ho.frozen (p:=⟨b,1,none⟩) x.lt hS).trans x.f1,(ho.frozen (p:=⟨b,2,none⟩) x.lt hS).trans x.f2,(ho.frozen (p:=⟨b,3,none⟩) x.lt hS).trans x.f3,(ho.frozen (p:=⟨b,4,none⟩) x.lt hS).trans x.f4,Nat.lt_of_lt_of_le x.lt ho.size⟩
theorem Cv.more {w w':World} {b:Nat} {es ks:Value} {h:En} (x:Cv w b es ks h) (ho:Only (fun _=>False) w w'):Cv w' b es ks h:=x.kept ho (fun h=>h)
theorem Cv.new (w:World) (es ks:Value) (h:En):Cv (w.alloc (.cells #[es,ks,.string h.key,.int .i64 h.page,.int .i64 h.slot] 85)) w.heap.size es ks h :=
  ⟨by simp,by simp,by simp,by simp,by simp,by simp,by simp,by simp,by simp,by simp,by simp⟩
def cvv (es ks:Value) (h:En):Value:=.agg #[es,ks,.string h.key,.int .i64 h.page,.int .i64 h.slot]
theorem load_cv {w:World} {b:Nat} {a1 a2:Option Addr} {n1 n2 c1 c2:Nat} {h:En} (x:Cv w b (.slice a1 n1 c1) (.slice a2 n2 c2) h):(loadVar 85 ⟨b,0,none⟩).run Tryz.prog w=.ok (cvv (.slice a1 n1 c1) (.slice a2 n2 c2) h) w:=by
  have c0:=x.c0
  have c1:=x.c1
  have c2:=x.c2
  have c3:=x.c3
  have c4:=x.c4
  simp [loadVar,go_sem,c0,c1,c2,c3,c4,cvv]
theorem results_cv {fn:Func} {p u:Tmp} (h:fn.results=#[.cell p 85,.tmp u]) {tmps:Array Value} {w:World} {b:Nat} {a1 a2:Option Addr} {n1 n2 c1 c2:Nat} {hi:En} (hp:tmps.getD p undef=.pointer (some ⟨b,0,none⟩)) (hP:Cv w b (.slice a1 n1 c1) (.slice a2 n2 c2) hi) :
    (results fn tmps).run Tryz.prog w=.ok (.tuple #[cvv (.slice a1 n1 c1) (.slice a2 n2 c2) hi,tmps.getD u undef]) w:=by
  have e:(asAddr (.pointer (some ⟨b,0,none⟩))).run Tryz.prog w=.ok ⟨b,0,none⟩ w:=rfl
  rw [results_cell_tmp h,hp,e]
  simp only [Result.andThen,load_cv hP]
theorem Cv.s0 {w:World} {b:Nat} {es ks:Value} {h:En} (x:Cv w b es ks h) (v:Value):Cv (w.setCell ⟨b,0,none⟩ v) b v ks h :=
  ⟨World.cell?_setCell_same _ _ _ x.c0,othN _ _ _ _ _ _ (by omega) x.c1,othN _ _ _ _ _ _ (by omega) x.c2,othN _ _ _ _ _ _ (by omega) x.c3,othN _ _ _ _ _ _ (by omega) x.c4,by simpa using x.f0,by simpa using x.f1,by simpa using x.f2,by simpa using x.f3,by simpa using x.f4,by simpa using x.lt⟩
theorem Cv.s1 {w:World} {b:Nat} {es ks:Value} {h:En} (x:Cv w b es ks h) (v:Value):Cv (w.setCell ⟨b,1,none⟩ v) b es v h :=
  ⟨othN _ _ _ _ _ _ (by omega) x.c0,World.cell?_setCell_same _ _ _ x.c1,othN _ _ _ _ _ _ (by omega) x.c2,othN _ _ _ _ _ _ (by omega) x.c3,othN _ _ _ _ _ _ (by omega) x.c4,by simpa using x.f0,by simpa using x.f1,by simpa using x.f2,by simpa using x.f3,by simpa using x.f4,by simpa using x.lt⟩
theorem Cv.s2 {w:World} {b:Nat} {es ks:Value} {h:En} (x:Cv w b es ks h) (v:ByteArray):Cv (w.setCell ⟨b,2,none⟩ (.string v)) b es ks ⟨v,h.page,h.slot⟩ :=
  ⟨othN _ _ _ _ _ _ (by omega) x.c0,othN _ _ _ _ _ _ (by omega) x.c1,World.cell?_setCell_same _ _ _ x.c2,othN _ _ _ _ _ _ (by omega) x.c3,othN _ _ _ _ _ _ (by omega) x.c4,by simpa using x.f0,by simpa using x.f1,by simpa using x.f2,by simpa using x.f3,by simpa using x.f4,by simpa using x.lt⟩
theorem Cv.s3 {w:World} {b:Nat} {es ks:Value} {h:En} (x:Cv w b es ks h) (v:Int):Cv (w.setCell ⟨b,3,none⟩ (.int .i64 v)) b es ks ⟨h.key,v,h.slot⟩ :=
  ⟨othN _ _ _ _ _ _ (by omega) x.c0,othN _ _ _ _ _ _ (by omega) x.c1,othN _ _ _ _ _ _ (by omega) x.c2,World.cell?_setCell_same _ _ _ x.c3,othN _ _ _ _ _ _ (by omega) x.c4,by simpa using x.f0,by simpa using x.f1,by simpa using x.f2,by simpa using x.f3,by simpa using x.f4,by simpa using x.lt⟩
theorem Cv.s4 {w:World} {b:Nat} {es ks:Value} {h:En} (x:Cv w b es ks h) (v:Int):Cv (w.setCell ⟨b,4,none⟩ (.int .i64 v)) b es ks ⟨h.key,h.page,v⟩ :=
  ⟨othN _ _ _ _ _ _ (by omega) x.c0,othN _ _ _ _ _ _ (by omega) x.c1,othN _ _ _ _ _ _ (by omega) x.c2,othN _ _ _ _ _ _ (by omega) x.c3,World.cell?_setCell_same _ _ _ x.c4,by simpa using x.f0,by simpa using x.f1,by simpa using x.f2,by simpa using x.f3,by simpa using x.f4,by simpa using x.lt⟩
theorem Cv.all {w:World} {b:Nat} {u v:Value} {g:En} (x:Cv w b u v g) (es ks:Value) (h:En):Cv (((((w.setCell ⟨b,0,none⟩ es).setCell ⟨b,1,none⟩ ks).setCell ⟨b,2,none⟩ (.string h.key)).setCell ⟨b,3,none⟩ (.int .i64 h.page)).setCell ⟨b,4,none⟩ (.int .i64 h.slot)) b es ks h :=
  ((((x.s0 es).s1 ks).s2 h.key).s3 h.page).s4 h.slot
theorem Only.five (w:World) (b:Nat) (v0 v1 v2 v3 v4:Value):Only (fun k=>k=b) w (((((w.setCell ⟨b,0,none⟩ v0).setCell ⟨b,1,none⟩ v1).setCell ⟨b,2,none⟩ v2).setCell ⟨b,3,none⟩ v3).setCell ⟨b,4,none⟩ v4):=by
  have st:∀ (W:World) (i:Nat) (v:Value),Only (fun k=>k=b) W (W.setCell ⟨b,i,none⟩ v):=fun W i v=>Only.setCell W ⟨b,i,none⟩ v rfl
  exact ((((st _ 0 _).trans (st _ 1 _) (fun _ _ h=>h)).trans (st _ 2 _) (fun _ _ h=>h)).trans (st _ 3 _) (fun _ _ h=>h)).trans (st _ 4 _) (fun _ _ h=>h)
theorem byd_of {h e:En} (hn:¬ h=noE):byd h e=decide (0 < cmpE e h):=by
  unfold byd
  exact decide_eq_decide.2 ⟨fun k=>cmpE_pos.2 k.2,fun k=>⟨hn,cmpE_pos.1 k⟩⟩
theorem blw_of {h e:En} (hn:¬ h=noE):blw h e=decide (cmpE e h < 0):=by
  unfold blw
  refine decide_eq_decide.2 ⟨fun k=>?_,fun k=>.inr (cmpE_neg.1 k)⟩
  rcases k with k | k
  · exact absurd k hn
  · exact cmpE_neg.2 k
set_option maxHeartbeats 1600000 in
theorem isBeyond_any (w:World) (a1 a2:Option Addr) (n1 n2 c1 c2:Nat) (h e:En) :
    Calls Tryz.prog 83 #[cvv (.slice a1 n1 c1) (.slice a2 n2 c2) h,e.agg] w fun x w'=>x=.returned (.bool (byd h e))∧Only (fun _=>False) w w':=by
  have HL:Hid (∀ W,Calls Tryz.prog 112 #[h.agg] W fun x w'=>x=.returned (.bool (decide (h=noE)))∧Only (fun _=>False) W w'):=fun W=>isLeast_any h W
  have HM:Hid (∀ W,Calls Tryz.prog 105 #[e.agg,h.agg] W fun x w'=>x=.returned (.int .i64 (cmpE e h))∧Only (fun _=>False) W w'):=fun W=>compare_any e h W
  have HCV:=hide ((Cv.new w (.slice a1 n1 c1) (.slice a2 n2 c2) h).more (onlyA _ (.cells #[.string e.key,.int .i64 e.page,.int .i64 e.slot] 41)))
  have HEV:=hide (Ev.new (w.alloc (.cells #[.slice a1 n1 c1,.slice a2 n2 c2,.string h.key,.int .i64 h.page,.int .i64 h.slot] 85)) e)
  rw [World.size_alloc] at HEV
  have HO:=hide (o2 (onlyA w (.cells #[.slice a1 n1 c1,.slice a2 n2 c2,.string h.key,.int .i64 h.page,.int .i64 h.slot] 85)) (onlyA _ (.cells #[.string e.key,.int .i64 e.page,.int .i64 e.slot] 41)))
  by_cases hn:h=noE
  · have hd:decide (h=noE)=true:=decide_eq_true hn
    have hb:byd h e=false:=by rw [hn,byd_noE]
    rw [hd] at HL
    rw [hb]
    clear hn hd hb
    obtain ⟨k,p,s⟩:=h
    obtain ⟨k',p',s'⟩:=e
    unfold cvv
    unfold En.agg at HL HM ⊢
    simp only [] at HL HM HCV HEV HO ⊢
    go_enter Tryz.func83,Tryz.ntmps83
    obtain ⟨W0,hW0⟩:=exq ((w.alloc (.cells #[.slice a1 n1 c1,.slice a2 n2 c2,.string k,.int .i64 p,.int .i64 s] 85)).alloc (.cells #[.string k',.int .i64 p',.int .i64 s'] 41))
    rw [hW0] at HCV HEV HO
    go_upto_region 1 with fail
    clear hW0
    have c2:=HCV.out.c2
    have c3:=HCV.out.c3
    have c4:=HCV.out.c4
    simp only [] at c2 c3 c4
    go_wp2_with fail
    refine (HL.out _).mono ?_
    rintro x w1 ⟨rfl,ho⟩
    have HO1:=hide (o2 HO.out ho)
    clear ho c2 c3 c4
    go_wp2_with fail
    go_ret
    exact ⟨rfl,HO1.out⟩
  · have hd:decide (h=noE)=false:=decide_eq_false hn
    rw [hd] at HL
    rw [byd_of hn]
    clear hn hd
    obtain ⟨c,hc⟩:=exq (cmpE e h)
    rw [hc] at HM ⊢
    clear hc
    obtain ⟨k,p,s⟩:=h
    obtain ⟨k',p',s'⟩:=e
    unfold cvv
    unfold En.agg at HL HM ⊢
    simp only [] at HL HM HCV HEV HO ⊢
    go_enter Tryz.func83,Tryz.ntmps83
    obtain ⟨W0,hW0⟩:=exq ((w.alloc (.cells #[.slice a1 n1 c1,.slice a2 n2 c2,.string k,.int .i64 p,.int .i64 s] 85)).alloc (.cells #[.string k',.int .i64 p',.int .i64 s'] 41))
    rw [hW0] at HCV HEV HO
    go_upto_region 1 with fail
    clear hW0
    have c2:=HCV.out.c2
    have c3:=HCV.out.c3
    have c4:=HCV.out.c4
    simp only [] at c2 c3 c4
    go_wp2_with fail
    refine (HL.out _).mono ?_
    rintro x w1 ⟨rfl,ho⟩
    have HO1:=hide (o2 HO.out ho)
    have HC1:=hide (HCV.out.more ho)
    have HE1:=hide (HEV.out.more ho)
    clear ho c2 c3 c4
    have c2:=HC1.out.c2
    have c3:=HC1.out.c3
    have c4:=HC1.out.c4
    have d0:=HE1.out.c0
    have d1:=HE1.out.c1
    have d2:=HE1.out.c2
    simp only [] at c2 c3 c4 d0 d1 d2
    go_wp2_with fail
    refine (HM.out _).mono ?_
    rintro x w2 ⟨rfl,ho⟩
    have HO2:=hide (o2 HO1.out ho)
    clear ho
    go_wp2_with fail
    go_ret
    exact ⟨rfl,HO2.out⟩
set_option maxHeartbeats 1600000 in
theorem isBelow_any (w:World) (a1 a2:Option Addr) (n1 n2 c1 c2:Nat) (h e:En) :
    Calls Tryz.prog 86 #[cvv (.slice a1 n1 c1) (.slice a2 n2 c2) h,e.agg] w fun x w'=>x=.returned (.bool (blw h e))∧Only (fun _=>False) w w':=by
  have HL:Hid (∀ W,Calls Tryz.prog 112 #[h.agg] W fun x w'=>x=.returned (.bool (decide (h=noE)))∧Only (fun _=>False) W w'):=fun W=>isLeast_any h W
  have HM:Hid (∀ W,Calls Tryz.prog 105 #[e.agg,h.agg] W fun x w'=>x=.returned (.int .i64 (cmpE e h))∧Only (fun _=>False) W w'):=fun W=>compare_any e h W
  have HCV:=hide ((Cv.new w (.slice a1 n1 c1) (.slice a2 n2 c2) h).more (onlyA _ (.cells #[.string e.key,.int .i64 e.page,.int .i64 e.slot] 41)))
  have HEV:=hide (Ev.new (w.alloc (.cells #[.slice a1 n1 c1,.slice a2 n2 c2,.string h.key,.int .i64 h.page,.int .i64 h.slot] 85)) e)
  rw [World.size_alloc] at HEV
  have HO:=hide (o2 (onlyA w (.cells #[.slice a1 n1 c1,.slice a2 n2 c2,.string h.key,.int .i64 h.page,.int .i64 h.slot] 85)) (onlyA _ (.cells #[.string e.key,.int .i64 e.page,.int .i64 e.slot] 41)))
  by_cases hn:h=noE
  · have hd:decide (h=noE)=true:=decide_eq_true hn
    have hb:blw h e=true:=by unfold blw; simp [hn]
    rw [hd] at HL
    rw [hb]
    clear hn hd hb
    obtain ⟨k,p,s⟩:=h
    obtain ⟨k',p',s'⟩:=e
    unfold cvv
    unfold En.agg at HL HM ⊢
    simp only [] at HL HM HCV HEV HO ⊢
    go_enter Tryz.func86,Tryz.ntmps86
    obtain ⟨W0,hW0⟩:=exq ((w.alloc (.cells #[.slice a1 n1 c1,.slice a2 n2 c2,.string k,.int .i64 p,.int .i64 s] 85)).alloc (.cells #[.string k',.int .i64 p',.int .i64 s'] 41))
    rw [hW0] at HCV HEV HO
    go_upto_region 1 with fail
    clear hW0
    have c2:=HCV.out.c2
    have c3:=HCV.out.c3
    have c4:=HCV.out.c4
    simp only [] at c2 c3 c4
    go_wp2_with fail
    refine (HL.out _).mono ?_
    rintro x w1 ⟨rfl,ho⟩
    have HO1:=hide (o2 HO.out ho)
    clear ho c2 c3 c4
    go_wp2_with fail
    go_ret
    exact ⟨rfl,HO1.out⟩
  · have hd:decide (h=noE)=false:=decide_eq_false hn
    rw [hd] at HL
    rw [blw_of hn]
    clear hn hd
    obtain ⟨c,hc⟩:=exq (cmpE e h)
    rw [hc] at HM ⊢
    clear hc
    obtain ⟨k,p,s⟩:=h
    obtain ⟨k',p',s'⟩:=e
    unfold cvv
    unfold En.agg at HL HM ⊢
    simp only [] at HL HM HCV HEV HO ⊢
    go_enter Tryz.func86,Tryz.ntmps86
    obtain ⟨W0,hW0⟩:=exq ((w.alloc (.cells #[.slice a1 n1 c1,.slice a2 n2 c2,.string k,.int .i64 p,.int .i64 s] 85)).alloc (.cells #[.string k',.int .i64 p',.int .i64 s'] 41))
    rw [hW0] at HCV HEV HO
    go_upto_region 1 with fail
    clear hW0
    have c2:=HCV.out.c2
    have c3:=HCV.out.c3
    have c4:=HCV.out.c4
    simp only [] at c2 c3 c4
    go_wp2_with fail
    refine (HL.out _).mono ?_
    rintro x w1 ⟨rfl,ho⟩
    have HO1:=hide (o2 HO.out ho)
    have HC1:=hide (HCV.out.more ho)
    have HE1:=hide (HEV.out.more ho)
    clear ho c2 c3 c4
    have c2:=HC1.out.c2
    have c3:=HC1.out.c3
    have c4:=HC1.out.c4
    have d0:=HE1.out.c0
    have d1:=HE1.out.c1
    have d2:=HE1.out.c2
    simp only [] at c2 c3 c4 d0 d1 d2
    go_wp2_with fail
    refine (HM.out _).mono ?_
    rintro x w2 ⟨rfl,ho⟩
    have HO2:=hide (o2 HO1.out ho)
    clear ho
    go_wp2_with fail
    go_ret
    exact ⟨rfl,HO2.out⟩
def HiIs (h:ByteArray) (hi:En):Prop:=(h=⟨#[]⟩∧hi=noE)∨(h=hi.enc∧hi.ok=true)
def pgv (a k v r:Int) (h:ByteArray) (ao:Option Addr) (n cp:Nat):Value:=.agg #[.int .i64 a,.int .i64 k,.int .i64 v,.int .i64 r,.string h,.slice ao n cp]
theorem HiIs.dec {h:ByteArray} {hi:En} (x:h=hi.enc) (ho:hi.ok=true):decE (bl h)=some hi:=by
  rw [x,bl_enc,decE_lay ho]
theorem enc_ne {hi:En}:¬ hi.enc=(⟨#[]⟩:ByteArray):=by
  intro e
  have h1:bl hi.enc=[]:=by rw [e]
  rw [bl_enc] at h1
  have h2:(txL hi.key).length=0:=by
    have:=congrArg List.length h1
    unfold En.lay at this
    simp only [List.length_append,List.length_nil] at this
    omega
  unfold txL at h2
  have h3:0 < (sev hi.key.size).length:=by unfold sev sevF; split <;> simp
  simp only [List.length_append] at h2
  omega
theorem hd_new (w:World) (v0 v1 v2 v3 v4 v5:Value):Pag ((w.alloc (.cells #[v0,v1,v2,v3,v4,v5] 24)).alloc (.cells #[.string ⟨#[]⟩,.int .i64 0,.int .i64 0] 41)) w.heap.size v0 v1 v2 v3 v4 v5∧Ev ((w.alloc (.cells #[v0,v1,v2,v3,v4,v5] 24)).alloc (.cells #[.string ⟨#[]⟩,.int .i64 0,.int .i64 0] 41)) (w.heap.size+1) noE∧Only (fun _=>False) w ((w.alloc (.cells #[v0,v1,v2,v3,v4,v5] 24)).alloc (.cells #[.string ⟨#[]⟩,.int .i64 0,.int .i64 0] 41)):=by
  refine ⟨(Pag.new w v0 v1 v2 v3 v4 v5).more (onlyA _ _),?_,o2 (onlyA _ _) (onlyA _ _)⟩
  have e1:=Ev.zero (w.alloc (.cells #[v0,v1,v2,v3,v4,v5] 24))
  rw [World.size_alloc] at e1
  exact e1
set_option maxHeartbeats 1600000 in
theorem readHead_ok (w:World) (a v r:Int) (h:ByteArray) (hi:En) (ao:Option Addr) (n cp:Nat) (hv:0≤v∧v≤255) (hr:0≤r∧r≤65535) (hh:HiIs h hi) :
    Calls Tryz.prog 104 #[pgv a 3 v r h ao n cp] w fun e w'=>e=.returned (.tuple #[hi.agg,.bool true])∧Only (fun _=>False) w w':=by
  have HX:=hide (hd_new w (.int .i64 a) (.int .i64 3) (.int .i64 v) (.int .i64 r) (.string h) (.slice ao n cp))
  have HN:Hid (∀ W,Calls Tryz.prog 97 #[.int .i64 r] W fun e w'=>e=.returned (.bool true)∧w'=W):=fun W=>by
    have:=isNumber_any r W
    rwa [show nm r=true by unfold nm; simp; omega] at this
  have t1:¬ v < 0:=by omega
  have t2:¬ (255:Int) < v:=by omega
  clear hv hr
  unfold pgv
  rcases hh with ⟨rfl,rfl⟩ | ⟨hx,ho⟩
  · go_enter Tryz.func104,Tryz.ntmps104
    go_upto_region 1 with fail
    obtain ⟨W0,hW0⟩:=exq ((w.alloc (.cells #[.int .i64 a,.int .i64 3,.int .i64 v,.int .i64 r,.string ⟨#[]⟩,.slice ao n cp] 24)).alloc (.cells #[.string ⟨#[]⟩,.int .i64 0,.int .i64 0] 41))
    rw [hW0] at HX ⊢
    clear hW0
    obtain ⟨p0,p1,p2,p3,p4,p5,_⟩:=HX.out.1
    obtain ⟨q0,q1,q2,g0,g1,g2,ql⟩:=HX.out.2.1
    go_wp2_with fail
    refine (HN.out _).mono ?_
    rintro x w1 ⟨rfl,h1⟩
    obtain rfl:=h1.symm
    go_wp2_with fail
    refine bodyPost_ret (results_ev rfl rfl (HX.out.2.1.all noE)) rfl ?_
    exact ⟨rfl,HX.out.2.2.trans (Only.three _ _ _ _ _) (fun i hi e=>by omega)⟩
  · have HD:Hid (∀ W,Calls Tryz.prog 24 #[.string h] W fun e w'=>e=.returned (.tuple #[.agg #[.string hi.key,.int .i64 hi.page,.int .i64 hi.slot],.int .i64 0])∧Only (fun _=>False) W w'):=fun W=>by
      have:=decode_any h W
      rw [HiIs.dec hx ho] at this
      exact this
    have hne:=ba_neN (s:=h) (t:=⟨#[]⟩) (by rw [hx]; exact enc_ne)
    have hne':¬ h.toList=[]:=by
      have h2:¬ h.toList=(⟨#[]⟩:ByteArray).toList:=by simpa using hne
      rw [ByteArray.toList_eq ⟨#[]⟩] at h2
      exact h2
    have hn1:(h.toList == [])=false:=by simpa using hne'
    have hn2:h.toList.isEmpty=false:=by
      cases e:h.toList with
      | nil=>exact absurd e hne'
      | cons _ _=>rfl
    clear hx ho hne
    go_enter Tryz.func104,Tryz.ntmps104
    go_upto_region 1 with fail
    obtain ⟨W0,hW0⟩:=exq ((w.alloc (.cells #[.int .i64 a,.int .i64 3,.int .i64 v,.int .i64 r,.string h,.slice ao n cp] 24)).alloc (.cells #[.string ⟨#[]⟩,.int .i64 0,.int .i64 0] 41))
    rw [hW0] at HX ⊢
    clear hW0
    obtain ⟨p0,p1,p2,p3,p4,p5,_⟩:=HX.out.1
    go_wp2_with fail
    refine (HN.out _).mono ?_
    rintro x w1 ⟨rfl,h1⟩
    obtain rfl:=h1.symm
    go_wp2_with fail
    refine (HD.out _).mono ?_
    rintro x w2 ⟨rfl,ho⟩
    have HE2:=hide (HX.out.2.1.more ho)
    have HO2:=hide (o2 HX.out.2.2 ho)
    clear ho p0 p1 p2 p3 p4 p5 HX
    go_upto_region 6 with fail
    have HE3:=hide (HE2.out.more (onlyA w2 (.cells #[.string hi.key,.int .i64 hi.page,.int .i64 hi.slot] 41)))
    have HO3:=hide (o2 HO2.out (onlyA w2 (.cells #[.string hi.key,.int .i64 hi.page,.int .i64 hi.slot] 41)))
    have HV3:=hide (Ev.new w2 hi)
    clear HE2 HO2
    obtain ⟨W3,hW3⟩:=exq (w2.alloc (.cells #[.string hi.key,.int .i64 hi.page,.int .i64 hi.slot] 41))
    rw [hW3] at HE3 HO3 HV3 ⊢
    clear hW3
    obtain ⟨q0,q1,q2,g0,g1,g2,ql⟩:=HE3.out
    obtain ⟨d0,d1,d2,_⟩:=HV3.out
    go_wp2_with fail
    refine bodyPost_ret (results_ev rfl rfl (HE3.out.all hi)) rfl ?_
    exact ⟨rfl,HO3.out.trans (Only.three _ _ _ _ _) (fun i hi e=>by omega)⟩
theorem readHead_bad (w:World) (a k v r:Int) (h:ByteArray) (ao:Option Addr) (n cp:Nat) (hk:¬ k=3) :
    Calls Tryz.prog 104 #[pgv a k v r h ao n cp] w fun e w'=>e=.returned (.tuple #[noE.agg,.bool false])∧Only (fun _=>False) w w':=by
  have HX:=hide (hd_new w (.int .i64 a) (.int .i64 k) (.int .i64 v) (.int .i64 r) (.string h) (.slice ao n cp))
  have t1:(k != 3)=true:=by simpa using hk
  clear hk
  unfold pgv
  go_enter Tryz.func104,Tryz.ntmps104
  go_upto_region 1 with fail
  obtain ⟨W0,hW0⟩:=exq ((w.alloc (.cells #[.int .i64 a,.int .i64 k,.int .i64 v,.int .i64 r,.string h,.slice ao n cp] 24)).alloc (.cells #[.string ⟨#[]⟩,.int .i64 0,.int .i64 0] 41))
  rw [hW0] at HX ⊢
  clear hW0
  obtain ⟨p0,p1,p2,p3,p4,p5,_⟩:=HX.out.1
  obtain ⟨q0,q1,q2,g0,g1,g2,ql⟩:=HX.out.2.1
  go_wp2_with fail
  refine bodyPost_ret (results_ev rfl rfl (HX.out.2.1.all noE)) rfl ?_
  exact ⟨rfl,HX.out.2.2.trans (Only.three _ _ _ _ _) (fun i hi e=>by omega)⟩
end Go.Proofs.YtipkeeobmihogaaGreat
