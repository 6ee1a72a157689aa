/- Parts. -/
import Derived.Test.YtipkeeobmihogaaGreatK05
import Derived.Deep.DeepCutAuto
set_option maxRecDepth 100000
namespace Go.Proofs.YtipkeeobmihogaaGreat
open Go.RowKit
theorem nums_two (a b:Int):nums [a,b]=sev a.toNat++sev b.toNat:=by simp [nums]
theorem nums_one (a:Int):nums [a]=sev a.toNat:=by simp [nums]
theorem Wr.only {w W W':World} {b:Nat} {row row':Option Nat} {l:List UInt8} (h:Wr W b row l) (hb:w.heap.size≤b) (ho:Only (fun _=>False) w W) (hg:WGro W W' b row row'):Only (fun _=>False) w W':=by
  refine ho.trans hg.only ?_
  rintro i hi (e | e)
  · omega
  · have:=(h.rowLt i e.symm).1
    omega
def Nms (w:World) (ao:Option Addr) (zs:List Int):Prop:=zs=[]∨∃ g o,ao=some ⟨g,o,none⟩∧g < w.heap.size∧∀ k,k < zs.length→w.cell? ⟨g,o+k,none⟩=some (.int .i64 (zs.getD k 0))
theorem wnum_nms (w W:World) (b:Nat) (row:Option Nat) (l:List UInt8) (ao:Option Addr) (cap:Nat) (zs:List Int) (hW:Wr W b row l) (hN:Nms w ao zs) (ho:Only (fun _=>False) w W) (hb:w.heap.size≤b) (hz:∀ k,k < zs.length→zs.getD k 0 < 9223372036854775808) (hl:l.length+10 * zs.length+10≤158329674399744) :
    Calls Tryz.prog 101 #[.pointer (some ⟨b,0,none⟩),.slice ao zs.length cap] W fun e w'=>e=.returned (.tuple #[])∧∃ row',Wr w' b row' (l++nums zs)∧WGro W w' b row row':=by
  rcases hN with rfl | ⟨g,o,rfl,hg,hc⟩
  · refine (wnum_none W b ao cap).mono ?_
    rintro e w1 ⟨rfl,rfl⟩
    exact ⟨rfl,row,by simpa [nums] using hW,WGro.refl _ _ _⟩
  · refine wnum_any W b row l zs g o cap hW (fun k hk=>(ho.cell (p:=⟨g,o+k,none⟩) hg (fun h=>h)).trans (hc k hk)) hz (by omega) ?_ (Nat.lt_of_lt_of_le hg ho.size) hl
    intro e
    have:=(hW.rowLt g e.symm).1
    omega
theorem wnum_two (w:World) (b:Nat) (row:Option Nat) (l:List UInt8) (y z:Int) (hW:Wr w b row l) (hy:y < 9223372036854775808) (hz:z < 9223372036854775808) (hl:l.length+40≤158329674399744) :
    Calls Tryz.prog 101 #[.pointer (some ⟨b,0,none⟩),.slice (some ⟨w.heap.size,0,none⟩) 2 2] (w.alloc (.cells #[.int .i64 y,.int .i64 z] 3)) fun e w'=>e=.returned (.tuple #[])∧∃ row',Wr w' b row' (l++nums [y,z])∧WGro w w' b row row':=by
  have hW1:Wr (w.alloc (.cells #[.int .i64 y,.int .i64 z] 3)) b row l:=hW.kept (Only.alloc (fun _=>False) w _) (fun h=>h) (fun _ _ h=>h)
  have hb:=hW.lt
  have h:=wnum_any (w.alloc (.cells #[.int .i64 y,.int .i64 z] 3)) b row l [y,z] w.heap.size 0 2 hW1
    (by intro k hk
        match k,hk with
        | 0,_=>simp
        | 1,_=>simp)
    (by intro k hk
        match k,hk with
        | 0,_=>simpa using hy
        | 1,_=>simpa using hz)
    (by omega) (by intro e; have:=(hW.rowLt _ e.symm).2; omega) (by simp) (by simp; omega)
  refine Calls.mono h ?_
  rintro e w' ⟨he,row',h1,h2⟩
  exact ⟨he,row',h1,(WGro.alloc w _ b row).trans h2⟩
set_option maxHeartbeats 800000 in
theorem laid_any (e:En) (w:World) (ao:Option Addr) (cap:Nat) (zs:List Int) (hf:e.few) (hN:Nms w ao zs) (hl:zs.length≤1) (hz:∀ k,k < zs.length→zs.getD k 0 < 9223372036854775808) :
    Calls Tryz.prog 65 #[e.agg,.slice ao zs.length cap] w fun x w'=>x=.returned (.string (str (e.lay++nums zs)))∧Only (fun _=>False) w w':=by
  have HN:=hide hN
  have HZ:=hide hz
  have HO:=hide (onlyA w (.cells #[.string e.key,.int .i64 e.page,.int .i64 e.slot] 41))
  have HL:Hid (e.lay=(sev e.key.size++e.key.data.toList)++nums [e.page,e.slot]):=by
    unfold Hid
    rw [nums_two]
    rfl
  have HK:Hid (e.key.size≤24):=hf.1
  have HP:Hid (e.page < 9223372036854775808∧e.slot < 9223372036854775808):=⟨by have:=hf.2; omega,by have:=hf.2; omega⟩
  have HEb:=hide (Eb.new w e)
  have HLL:Hid (e.lay.length+10 * zs.length≤55):=by
    have:=lay_len hf.1
    unfold Hid
    omega
  obtain ⟨L,hL⟩:=exq (e.lay)
  rw [hL] at HL HLL ⊢
  clear hN hz hf hL
  obtain ⟨k,p,s⟩:=e
  unfold En.agg
  simp only [] at HO HL HK HP HEb ⊢
  obtain ⟨W0,hW0⟩:=exq (w.alloc (.cells #[.string k,.int .i64 p,.int .i64 s] 41))
  go_enter Tryz.func65,Tryz.ntmps65
  rw [hW0] at HO HEb
  go_wp2_with fail
  refine (new_any _).mono ?_
  rintro x w1 ⟨rfl,hw1⟩
  have HW1:=hide (Wr.new W0)
  have HO1:=hide (o2 HO.out (onlyA W0 (.cells #[.slice none 0 0] 153)))
  have HE1:=hide (HEb.out.more (onlyA W0 (.cells #[.slice none 0 0] 153)))
  have hs0:w.heap.size < W0.heap.size:=HEb.out.lt
  have HS0:=hide hs0
  rw [← hw1] at HW1 HO1 HE1
  clear hw1 hs0 hW0 HO HEb
  have c0:=HE1.out.c0
  go_wp2_with fail
  refine (wtext_any w1 W0.heap.size none [] k HW1.out (by have:=HK.out; simp; omega)).mono ?_
  rintro x w2 ⟨rfl,row2,hW2,hg2⟩
  have HO2:=hide (HW1.out.only (Nat.le_of_lt HS0.out) HO1.out hg2)
  have HE2 := hide (HE1.out.kept hg2.only (by rintro (h | h)
                                              · have:=HS0.out; omega
                                              · cases h))
  have HW2:=hide hW2
  rw [List.nil_append] at HW2
  clear hW2 hg2 c0 HE1 HO1 HW1
  have c1:=HE2.out.c1
  have c2:=HE2.out.c2
  simp only [Nat.zero_add] at c1 c2
  go_wp2_with fail
  refine (wnum_two w2 W0.heap.size row2 _ p s HW2.out HP.out.1 HP.out.2 (by have:=HK.out; have h1:=sev_le k.size; have h2:=bl_len k; unfold bl at h2; simp only [List.length_append]; omega)).mono ?_
  rintro x w3 ⟨rfl,row3,hW3,hg3⟩
  rw [← HL.out] at hW3
  have HO3:=hide (HW2.out.only (Nat.le_of_lt HS0.out) HO2.out hg3)
  have HW3:=hide hW3
  clear hW3 hg3 c1 c2 HE2 HO2 HW2
  go_wp2_with fail
  refine (wnum_nms w w3 W0.heap.size row3 _ ao cap zs HW3.out HN.out HO3.out (Nat.le_of_lt HS0.out) HZ.out (by have:=HLL.out; omega)).mono ?_
  rintro x w4 ⟨rfl,row4,hW4,hg4⟩
  have HO4:=hide (HW3.out.only (Nat.le_of_lt HS0.out) HO3.out hg4)
  have HW4:=hide hW4
  clear hW4 hg4 HO3 HW3
  go_wp2_with fail
  refine (wbytes_any w4 W0.heap.size row4 _ HW4.out).mono ?_
  rintro x w5 ⟨rfl,rfl⟩
  go_wp2_with fail
  go_ret
  exact ⟨rfl,HO4.out⟩
theorem laid_one (e:En) (w:World) (hf:e.few):Calls Tryz.prog 65 #[e.agg,.slice none 0 0] w fun x w'=>x=.returned (.string e.enc)∧Only (fun _=>False) w w':=by
  have h:=laid_any e w none 0 [] hf (.inl rfl) (by simp) (fun k hk=>by simp at hk)
  have e0:e.lay++nums []=e.lay:=by simp [nums]
  rw [e0] at h
  exact h
theorem laid_two (e:En) (w W:World) (c:Int) (hf:e.few) (hc:c < 9223372036854775808) (hW:Only (fun _=>False) (w.alloc (.cells #[.int .i64 c] 3)) W):Calls Tryz.prog 65 #[e.agg,.slice (some ⟨w.heap.size,0,none⟩) 1 1] W fun x w'=>x=.returned (.string (e.encS c))∧Only (fun _=>False) W w':=by
  have h:=laid_any e W (some ⟨w.heap.size,0,none⟩) 1 [c] hf (.inr ⟨w.heap.size,0,rfl,Nat.lt_of_lt_of_le (by simp) hW.size,fun k hk=>by
    have:k=0:=by simpa using hk
    subst this
    rw [hW.cell (p:=⟨w.heap.size,0+0,none⟩) (by simp) (fun h=>h)]
    simp⟩) (by simp) (fun k hk=>by
    have:k=0:=by simpa using hk
    subst this
    simpa using hc)
  rw [nums_one] at h
  exact h
def outC (o:Bool) (s:ByteArray):Value:=.tuple #[.string (if o then s else ⟨#[]⟩),.int .i64 (if o then 0 else 140)]
theorem encode_any (e:En) (w:World):Calls Tryz.prog 28 #[e.agg] w fun x w'=>x=.returned (outC e.ok e.enc)∧Only (fun _=>False) w w':=by
  have HC:Hid (∀ W,Calls Tryz.prog 60 #[e.agg] W fun x w'=>x=.returned (.bool e.ok)∧Only (fun _=>False) W w'):=fun W=>isEntry_any e W
  have HE:Hid (e.ok=true→∀ W,Calls Tryz.prog 65 #[e.agg,.slice none 0 0] W fun x w'=>x=.returned (.string e.enc)∧Only (fun _=>False) W w'):=fun h W=>laid_one e W (En.few_ok h)
  have HO:=hide (onlyA w (.cells #[.string e.key,.int .i64 e.page,.int .i64 e.slot] 41))
  have HEb:=hide (Eb.new w e)
  obtain ⟨E,hE⟩:=exq (e.enc)
  obtain ⟨b,hb⟩:=exq (e.ok)
  rw [hE,hb]
  rw [hb] at HC
  rw [hE,hb] at HE
  clear hE hb
  obtain ⟨k,p,s⟩:=e
  unfold En.agg at HC HE ⊢
  simp only [] at HC HE HO HEb ⊢
  go_enter Tryz.func28,Tryz.ntmps28
  go_wp2_with fail
  refine (HC.out _).mono ?_
  rintro x w1 ⟨rfl,ho⟩
  have HO1:=hide (o2 HO.out ho)
  have HE1:=hide (HEb.out.more ho)
  clear ho HO HEb
  cases b with
  | false=>
    go_wp2_with fail
    go_ret2
    exact ⟨rfl,HO1.out⟩
  | true=>
    have HE2:=hide (HE.out rfl)
    have c0:=HE1.out.c0
    have c1:=HE1.out.c1
    have c2:=HE1.out.c2
    simp only [Nat.zero_add] at c0 c1 c2
    go_wp2_with fail
    refine (HE2.out _).mono ?_
    rintro x w2 ⟨rfl,ho⟩
    have HO2:=hide (o2 HO1.out ho)
    clear ho
    go_wp2_with fail
    go_ret2
    exact ⟨rfl,HO2.out⟩
structure Ev (w:World) (b:Nat) (e:En):Prop where
  c0:w.cell? ⟨b,0,none⟩=some (.string e.key)
  c1:w.cell? ⟨b,1,none⟩=some (.int .i64 e.page)
  c2:w.cell? ⟨b,2,none⟩=some (.int .i64 e.slot)
  f0:w.frozen? ⟨b,0,none⟩=false
  f1:w.frozen? ⟨b,1,none⟩=false
  f2:w.frozen? ⟨b,2,none⟩=false
  lt:b < w.heap.size
theorem Ev.kept {S:Nat→Prop} {w w':World} {b:Nat} {e:En} (h:Ev w b e) (ho:Only S w w') (hS:¬ S b):Ev w' b e :=
  ⟨(ho.cell (p:=⟨b,0,none⟩) h.lt hS).trans h.c0,(ho.cell (p:=⟨b,1,none⟩) h.lt hS).trans h.c1,(ho.cell (p:=⟨b,2,none⟩) h.lt hS).trans h.c2,(ho.frozen (p:=⟨b,0,none⟩) h.lt hS).trans h.f0,(ho.frozen (p:=⟨b,1,none⟩) h.lt hS).trans h.f1,(ho.frozen (p:=⟨b,2,none⟩) h.lt hS).trans h.f2,Nat.lt_of_lt_of_le h.lt ho.size⟩
theorem Ev.more {w w':World} {b:Nat} {e:En} (h:Ev w b e) (ho:Only (fun _=>False) w w'):Ev w' b e:=h.kept ho (fun h=>h)
theorem Ev.new (w:World) (e:En):Ev (w.alloc (.cells #[.string e.key,.int .i64 e.page,.int .i64 e.slot] 41)) w.heap.size e:=⟨by simp,by simp,by simp,by simp,by simp,by simp,by simp⟩
theorem Ev.zero (w:World):Ev (w.alloc (.cells #[.string ⟨#[]⟩,.int .i64 0,.int .i64 0] 41)) w.heap.size noE:=Ev.new w noE
theorem othN (W:World) (b i j:Nat) (v x:Value) (hij:i≠j) (hx:W.cell? ⟨b,j,none⟩=some x):(W.setCell ⟨b,i,none⟩ v).cell? ⟨b,j,none⟩=some x :=
  (World.cell?_setCell_other _ _ _ _ (by intro e; injection e; omega)).trans hx
theorem Ev.s0 {w:World} {b:Nat} {e:En} (h:Ev w b e) (x:ByteArray):Ev (w.setCell ⟨b,0,none⟩ (.string x)) b ⟨x,e.page,e.slot⟩ :=
  ⟨World.cell?_setCell_same _ _ _ h.c0,othN _ _ _ _ _ _ (by omega) h.c1,othN _ _ _ _ _ _ (by omega) h.c2,by simpa using h.f0,by simpa using h.f1,by simpa using h.f2,by simpa using h.lt⟩
theorem Ev.s1 {w:World} {b:Nat} {e:En} (h:Ev w b e) (x:Int):Ev (w.setCell ⟨b,1,none⟩ (.int .i64 x)) b ⟨e.key,x,e.slot⟩ :=
  ⟨othN _ _ _ _ _ _ (by omega) h.c0,World.cell?_setCell_same _ _ _ h.c1,othN _ _ _ _ _ _ (by omega) h.c2,by simpa using h.f0,by simpa using h.f1,by simpa using h.f2,by simpa using h.lt⟩
theorem Ev.s2 {w:World} {b:Nat} {e:En} (h:Ev w b e) (x:Int):Ev (w.setCell ⟨b,2,none⟩ (.int .i64 x)) b ⟨e.key,e.page,x⟩ :=
  ⟨othN _ _ _ _ _ _ (by omega) h.c0,othN _ _ _ _ _ _ (by omega) h.c1,World.cell?_setCell_same _ _ _ h.c2,by simpa using h.f0,by simpa using h.f1,by simpa using h.f2,by simpa using h.lt⟩
theorem Ev.all {w:World} {b:Nat} {u:En} (h:Ev w b u) (e:En):Ev (((w.setCell ⟨b,0,none⟩ (.string e.key)).setCell ⟨b,1,none⟩ (.int .i64 e.page)).setCell ⟨b,2,none⟩ (.int .i64 e.slot)) b e:=((h.s0 e.key).s1 e.page).s2 e.slot
theorem Only.three (w:World) (b:Nat) (v0 v1 v2:Value):Only (fun k=>k=b) w (((w.setCell ⟨b,0,none⟩ v0).setCell ⟨b,1,none⟩ v1).setCell ⟨b,2,none⟩ v2):=by
  have st:∀ (W:World) (i:Nat) (v:Value),Only (fun k=>k=b) W (W.setCell ⟨b,i,none⟩ v):=fun W i v=>Only.setCell W ⟨b,i,none⟩ v rfl
  exact ((st _ 0 _).trans (st _ 1 _) (fun _ _ h=>h)).trans (st _ 2 _) (fun _ _ h=>h)
theorem load_ev {w:World} {b:Nat} {e:En} (h:Ev w b e):(loadVar 41 ⟨b,0,none⟩).run Tryz.prog w=.ok e.agg w:=by
  have c0:=h.c0
  have c1:=h.c1
  have c2:=h.c2
  simp [loadVar,go_sem,c0,c1,c2,En.agg]
theorem results_ev1 {fn:Func} {p:Tmp} (h:fn.results=#[.cell p 41]) {tmps:Array Value} {w:World} {b:Nat} {e:En} (hp:tmps.getD p undef=.pointer (some ⟨b,0,none⟩)) (hP:Ev w b e) :
    (results fn tmps).run Tryz.prog w=.ok e.agg w:=by
  have e:(asAddr (.pointer (some ⟨b,0,none⟩))).run Tryz.prog w=.ok ⟨b,0,none⟩ w:=rfl
  have hp':tmps[p]?.getD undef=.pointer (some ⟨b,0,none⟩):=by simpa using hp
  simp only [results,h]
  simp [Sem.run_bind,Result.andThen,hp',e,load_ev hP]
theorem results_ev {fn:Func} {p u:Tmp} (h:fn.results=#[.cell p 41,.tmp u]) {tmps:Array Value} {w:World} {b:Nat} {t:En} (hp:tmps.getD p undef=.pointer (some ⟨b,0,none⟩)) (hP:Ev w b t) :
    (results fn tmps).run Tryz.prog w=.ok (.tuple #[t.agg,tmps.getD u undef]) w:=by
  have e:(asAddr (.pointer (some ⟨b,0,none⟩))).run Tryz.prog w=.ok ⟨b,0,none⟩ w:=rfl
  rw [results_cell_tmp h,hp,e]
  simp only [Result.andThen,load_ev hP]
theorem results_ev3 {fn:Func} {p u y:Tmp} (h:fn.results=#[.cell p 41,.tmp u,.tmp y]) {tmps:Array Value} {w:World} {b:Nat} {t:En} (hp:tmps.getD p undef=.pointer (some ⟨b,0,none⟩)) (hP:Ev w b t) :
    (results fn tmps).run Tryz.prog w=.ok (.tuple #[t.agg,tmps.getD u undef,tmps.getD y undef]) w:=by
  have e:(asAddr (.pointer (some ⟨b,0,none⟩))).run Tryz.prog w=.ok ⟨b,0,none⟩ w:=rfl
  have hp':tmps[p]?.getD undef=.pointer (some ⟨b,0,none⟩):=by simpa using hp
  simp only [results,h]
  simp [Sem.run_bind,Result.andThen,hp',e,load_ev hP]
theorem rtext_stN (w:World) (r:Nat) (s:ByteArray) (z:Int) (hR:Rd w r s 0) :
    Calls Tryz.prog 94 #[.pointer (some ⟨r,0,none⟩),.int .i64 z] w fun e w'=>e=.returned (.string (str (rdT z (bl s)).1))∧Rd w' r (str (rdT z (bl s)).2.1) (rdT z (bl s)).2.2∧Only (fun k=>k=r) w w':=rtext_any w r s z hR
theorem rnum_st (w:World) (r:Nat) (l:List UInt8) (x z:Int) (hR:Rd w r (str l) x) :
    Calls Tryz.prog 79 #[.pointer (some ⟨r,0,none⟩),.int .i64 z] w fun e w'=>e=.returned (.int .i64 (rnS (l,x) z).1)∧Rd w' r (str (rnS (l,x) z).2.1) (rnS (l,x) z).2.2∧Only (fun k=>k=r) w w':=by
  unfold rnS
  by_cases hx:x=0
  · subst hx
    rw [if_pos rfl]
    exact rnum_any w r (str l) z hR
  · rw [if_neg hx]
    refine (rnum_err w r x z hR.c1 (by simpa using hx)).mono ?_
    rintro e w' ⟨he,rfl⟩
    exact ⟨he,hR,Only.refl _ _⟩
theorem rend_stN (w:World) (r:Nat) (l:List UInt8) (x:Int) (hR:Rd w r (str l) x) :
    Calls Tryz.prog 59 #[.pointer (some ⟨r,0,none⟩)] w fun e w'=>e=.returned (.int .i64 (endE l x))∧w'=w:=by
  unfold endE
  by_cases hx:x=0
  · subst hx
    rw [if_pos rfl]
    have h:=rend_ok w r (str l) hR.c1 hR.c0
    rw [str_size] at h
    exact h
  · rw [if_neg hx]
    exact rend_err w r x hR.c1 (by simpa using hx)
structure Tk (w W:World) (r:Nat) (l:List UInt8) (x:Int) (e:En):Prop where
  res:Ev W w.heap.size noE
  ent:Ev W (w.heap.size+1) e
  rd:Rd W r (str l) x
  only:Only (fun k=>k=r) w W
  lt:r < w.heap.size
theorem Tk.set {w W:World} {r:Nat} {l:List UInt8} {x:Int} {e e':En} (h:Tk w W r l x e) (i:Nat) (v:Value) (ht:Ev (W.setCell ⟨w.heap.size+1,i,none⟩ v) (w.heap.size+1) e'):Tk w (W.setCell ⟨w.heap.size+1,i,none⟩ v) r l x e':=by
  have ho:Only (fun k=>k=w.heap.size+1) W (W.setCell ⟨w.heap.size+1,i,none⟩ v):=Only.setCell W _ v rfl
  have:=h.lt
  exact ⟨h.res.kept ho (by omega),ht,h.rd.kept ho (by omega),h.only.trans ho (fun j hj e=>by omega),h.lt⟩
theorem Tk.take {w W W':World} {r:Nat} {l l':List UInt8} {x x':Int} {e:En} (h:Tk w W r l x e) (hr:Rd W' r (str l') x') (ho:Only (fun k=>k=r) W W'):Tk w W' r l' x' e:=by
  have:=h.lt
  exact ⟨h.res.kept ho (by omega),h.ent.kept ho (by omega),hr,h.only.trans ho (fun j hj e=>e),h.lt⟩
set_option maxHeartbeats 800000 in
theorem taken_any (w:World) (r:Nat) (s:ByteArray) (hR:Rd w r s 0) (hr:r < w.heap.size) :
    Calls Tryz.prog 58 #[.pointer (some ⟨r,0,none⟩)] w fun e w'=>e=.returned (takeE (bl s)).1.agg∧Rd w' r (str (takeE (bl s)).2.1) (takeE (bl s)).2.2∧Only (fun k=>k=r) w w':=by
  have H0:Hid (Tk w ((w.alloc (.cells #[.string ⟨#[]⟩,.int .i64 0,.int .i64 0] 41)).alloc (.cells #[.string ⟨#[]⟩,.int .i64 0,.int .i64 0] 41)) r (bl s) 0 noE):=by
    have e1:=Ev.zero (w.alloc (.cells #[.string ⟨#[]⟩,.int .i64 0,.int .i64 0] 41))
    rw [World.size_alloc] at e1
    refine ⟨(Ev.zero w).more (onlyA _ _),e1,?_,(o2 (onlyA _ _) (onlyA _ _)).mono (fun _ _ h=>h.elim),hr⟩
    rw [str_bl]
    exact (hR.alloc _).alloc _
  obtain ⟨P,hP⟩:=exq (rdT 24 (bl s))
  obtain ⟨A,hA⟩:=exq (rnS P.2 65535)
  obtain ⟨C,hC⟩:=exq (rnS A.2 65535)
  have HT:Hid (takeE (bl s)=(⟨str P.1,A.1,C.1⟩,C.2)):=by
    unfold Hid takeE
    rw [hP,hA,hC]
  have HP:=hide hP
  have HA:=hide hA
  have HC:=hide hC
  rw [HT.out]
  clear hP hA hC hR hr
  obtain ⟨K,hK⟩:=exq (str P.1)
  have HK:=hide hK
  clear hK
  go_enter Tryz.func58,Tryz.ntmps58
  go_upto_region 2 with fail
  obtain ⟨W0,hW0⟩:=exq ((w.alloc (.cells #[.string ⟨#[]⟩,.int .i64 0,.int .i64 0] 41)).alloc (.cells #[.string ⟨#[]⟩,.int .i64 0,.int .i64 0] 41))
  rw [hW0] at H0 ⊢
  clear hW0
  go_wp2_with fail
  have h1:=H0.out.rd
  rw [str_bl] at h1
  refine (rtext_stN W0 r s 24 h1).mono ?_
  clear h1
  rintro e W1 ⟨rfl,hr1,ho1⟩
  rw [HP.out] at hr1 ⊢
  rw [HK.out]
  have H1:=hide (H0.out.take hr1 ho1)
  clear hr1 ho1 H0
  have c0:=H1.out.ent.c0
  have f0:=H1.out.ent.f0
  go_wp2_with fail
  have H2:=hide (H1.out.set 0 _ (H1.out.ent.s0 K))
  clear c0 f0 H1
  obtain ⟨W2,hW2⟩:=exq (W1.setCell ⟨w.heap.size+1,0,none⟩ (.string K))
  rw [hW2] at H2 ⊢
  clear hW2
  refine (rnum_st W2 r P.2.1 P.2.2 65535 H2.out.rd).mono ?_
  rintro e W3 ⟨rfl,hr3,ho3⟩
  rw [HA.out] at hr3 ⊢
  have H3:=hide (H2.out.take hr3 ho3)
  clear hr3 ho3 H2
  have c1:=H3.out.ent.c1
  have f1:=H3.out.ent.f1
  go_wp2_with fail
  have H4:=hide (H3.out.set 1 _ (H3.out.ent.s1 A.1))
  clear c1 f1 H3
  obtain ⟨W4,hW4⟩:=exq (W3.setCell ⟨w.heap.size+1,1,none⟩ (.int .i64 A.1))
  rw [hW4] at H4 ⊢
  clear hW4
  refine (rnum_st W4 r A.2.1 A.2.2 65535 H4.out.rd).mono ?_
  rintro e W5 ⟨rfl,hr5,ho5⟩
  rw [HC.out] at hr5 ⊢
  have H5:=hide (H4.out.take hr5 ho5)
  clear hr5 ho5 H4
  have c2:=H5.out.ent.c2
  have f2:=H5.out.ent.f2
  go_upto_region 5 with fail
  have H6:=hide (H5.out.set 2 _ (H5.out.ent.s2 C.1))
  clear c2 f2 H5
  obtain ⟨W6,hW6⟩:=exq (W5.setCell ⟨w.heap.size+1,2,none⟩ (.int .i64 C.1))
  rw [hW6] at H6 ⊢
  clear hW6
  have c0:=H6.out.ent.c0
  have c1:=H6.out.ent.c1
  have c2:=H6.out.ent.c2
  simp only [] at c0 c1 c2
  have r0:=H6.out.res.c0
  have r1:=H6.out.res.c1
  have r2:=H6.out.res.c2
  have g0:=H6.out.res.f0
  have g1:=H6.out.res.f1
  have g2:=H6.out.res.f2
  go_wp2_with fail
  refine bodyPost_ret (results_ev1 rfl rfl (H6.out.res.all ⟨K,A.1,C.1⟩)) rfl ?_
  have ho:=Only.three W6 w.heap.size (.string K) (.int .i64 A.1) (.int .i64 C.1)
  have:=H6.out.lt
  exact ⟨by rw [HK.out],H6.out.rd.kept ho (by omega),H6.out.only.trans ho (fun j hj e=>by omega)⟩
def outE (o:Option En):Value:=.tuple #[(o.getD noE).agg,.int .i64 (if o.isSome then 0 else 140)]
structure Dc (w W:World) (l:List UInt8) (x:Int):Prop where
  res:Ev W w.heap.size noE
  rd:Rd W (w.heap.size+1) (str l) x
  only:Only (fun _=>False) w W
theorem Dc.take {w W W':World} {l l':List UInt8} {x x':Int} (h:Dc w W l x) (hr:Rd W' (w.heap.size+1) (str l') x') (ho:Only (fun k=>k=w.heap.size+1) W W'):Dc w W' l' x' :=
  ⟨h.res.kept ho (by omega),hr,h.only.trans ho (fun i hi e=>by omega)⟩
theorem Dc.more {w W W':World} {l:List UInt8} {x:Int} (h:Dc w W l x) (ho:Only (fun _=>False) W W'):Dc w W' l x :=
  ⟨h.res.more ho,h.rd.kept ho (fun h=>h),o2 h.only ho⟩
set_option maxHeartbeats 800000 in
theorem decode_any (s:ByteArray) (w:World) :
    Calls Tryz.prog 24 #[.string s] w fun e w'=>e=.returned (outE (decE (bl s)))∧Only (fun _=>False) w w':=by
  have H0:Hid (Dc w ((w.alloc (.cells #[.string ⟨#[]⟩,.int .i64 0,.int .i64 0] 41)).alloc (.cells #[.string s,.int .i64 0] 130)) (bl s) 0):=by
    have e1:=Rd.new (w.alloc (.cells #[.string ⟨#[]⟩,.int .i64 0,.int .i64 0] 41)) s
    rw [World.size_alloc] at e1
    refine ⟨(Ev.zero w).more (onlyA _ _),by rw [str_bl]; exact e1,o2 (onlyA _ _) (onlyA _ _)⟩
  go_enter Tryz.func24,Tryz.ntmps24
  go_wp2_with fail
  refine (read_any s _).mono ?_
  rintro e w2 ⟨rfl,rfl⟩
  go_upto_region 2 with fail
  obtain ⟨W0,hW0⟩:=exq ((w.alloc (.cells #[.string ⟨#[]⟩,.int .i64 0,.int .i64 0] 41)).alloc (.cells #[.string s,.int .i64 0] 130))
  rw [hW0] at H0 ⊢
  clear hW0
  have h1:=H0.out.rd
  rw [str_bl] at h1
  have HTK:=hide (taken_any W0 (w.heap.size+1) s h1 h1.lt)
  clear h1
  obtain ⟨T,hT⟩:=exq (takeE (bl s))
  have HD:Hid (decE (bl s)=if endE T.2.1 T.2.2=0∧T.1.ok=true then some T.1 else none):=by
    unfold Hid decE
    rw [hT]
  rw [hT] at HTK
  clear hT
  obtain ⟨e,l,x⟩:=T
  obtain ⟨k,p,q⟩:=e
  unfold En.agg at HTK
  simp only [] at HTK HD
  go_wp2_with fail
  refine HTK.out.mono ?_
  rintro e W1 ⟨rfl,hr1,ho1⟩
  go_upto_region 3 with fail
  have H1:=hide (H0.out.take hr1 ho1)
  have HV:=hide (Ev.new W1 ⟨k,p,q⟩)
  have HA:=hide (onlyA W1 (.cells #[.string k,.int .i64 p,.int .i64 q] 41))
  have HS:Hid (w.heap.size+1 < W1.heap.size):=H1.out.rd.lt
  simp only [] at HV
  clear hr1 ho1 H0 HTK
  obtain ⟨W2,hW2⟩:=exq (W1.alloc (.cells #[.string k,.int .i64 p,.int .i64 q] 41))
  rw [hW2] at HV HA ⊢
  clear hW2
  have H2:=hide (H1.out.more HA.out)
  clear HA H1
  have HIE:Hid (∀ W,Calls Tryz.prog 60 #[.agg #[.string k,.int .i64 p,.int .i64 q]] W fun x w'=>x=.returned (.bool (En.ok ⟨k,p,q⟩))∧Only (fun _=>False) W w'):=fun W=>isEntry_any ⟨k,p,q⟩ W
  obtain ⟨O,hO⟩:=exq (En.ok ⟨k,p,q⟩)
  rw [hO] at HIE HD
  clear hO
  have HRE:Hid (Calls Tryz.prog 59 #[.pointer (some ⟨w.heap.size+1,0,none⟩)] W2 fun e w'=>e=.returned (.int .i64 (endE l x))∧w'=W2):=rend_stN W2 _ l x H2.out.rd
  obtain ⟨E,hE⟩:=exq (endE l x)
  rw [hE] at HRE HD
  clear hE
  by_cases he:E=0
  · subst he
    have HDX:Hid (decE (bl s)=if O=true then some ⟨k,p,q⟩ else none):=by unfold Hid; rw [HD.out]; simp
    clear HD
    have c0:=HV.out.c0
    have c1:=HV.out.c1
    have c2:=HV.out.c2
    simp only [] at c0 c1 c2
    go_wp2_with fail
    refine HRE.out.mono ?_
    rintro e W3 ⟨rfl,h3⟩
    obtain rfl:=h3.symm
    go_wp2_with fail
    refine (HIE.out _).mono ?_
    rintro e W4 ⟨rfl,ho4⟩
    have H4:=hide (H2.out.more ho4)
    have HV4:=hide (HV.out.more ho4)
    clear ho4 c0 c1 c2
    have c0:=HV4.out.c0
    have c1:=HV4.out.c1
    have c2:=HV4.out.c2
    simp only [] at c0 c1 c2
    have r0:=H4.out.res.c0
    have r1:=H4.out.res.c1
    have r2:=H4.out.res.c2
    have g0:=H4.out.res.f0
    have g1:=H4.out.res.f1
    have g2:=H4.out.res.f2
    cases O
    · go_wp2_with fail
      refine bodyPost_ret (results_ev rfl rfl (H4.out.res.all noE)) rfl ?_
      exact ⟨by rw [HDX.out]; rfl,H4.out.only.trans (Only.three _ _ _ _ _) (fun i hi e=>by omega)⟩
    · go_wp2_with fail
      refine bodyPost_ret (results_ev rfl rfl (H4.out.res.all ⟨k,p,q⟩)) rfl ?_
      exact ⟨by rw [HDX.out]; rfl,H4.out.only.trans (Only.three _ _ _ _ _) (fun i hi e=>by omega)⟩
  · have he':(E != 0)=true:=by simpa using he
    have HDX:Hid (decE (bl s)=none):=by unfold Hid; rw [HD.out,if_neg (fun h=>he h.1)]
    clear he HD
    have r0:=H2.out.res.c0
    have r1:=H2.out.res.c1
    have r2:=H2.out.res.c2
    have g0:=H2.out.res.f0
    have g1:=H2.out.res.f1
    have g2:=H2.out.res.f2
    go_wp2_with fail
    refine HRE.out.mono ?_
    rintro e W3 ⟨rfl,h3⟩
    obtain rfl:=h3.symm
    go_wp2_with fail
    refine bodyPost_ret (results_ev rfl rfl (H2.out.res.all noE)) rfl ?_
    exact ⟨by rw [HDX.out]; rfl,H2.out.only.trans (Only.three _ _ _ _ _) (fun i hi e=>by omega)⟩
def outS (o:Option (En × Int)):Value:=.tuple #[(o.getD (noE,0)).1.agg,.int .i64 (o.getD (noE,0)).2,.int .i64 (if o.isSome then 0 else 140)]
set_option maxHeartbeats 800000 in
theorem unsep_any (s:ByteArray) (w:World) :
    Calls Tryz.prog 35 #[.string s] w fun e w'=>e=.returned (outS (decS (bl s)))∧Only (fun _=>False) w w':=by
  have H0:Hid (Dc w ((w.alloc (.cells #[.string ⟨#[]⟩,.int .i64 0,.int .i64 0] 41)).alloc (.cells #[.string s,.int .i64 0] 130)) (bl s) 0):=by
    have e1:=Rd.new (w.alloc (.cells #[.string ⟨#[]⟩,.int .i64 0,.int .i64 0] 41)) s
    rw [World.size_alloc] at e1
    refine ⟨(Ev.zero w).more (onlyA _ _),by rw [str_bl]; exact e1,o2 (onlyA _ _) (onlyA _ _)⟩
  go_enter Tryz.func35,Tryz.ntmps35
  go_wp2_with fail
  refine (read_any s _).mono ?_
  rintro e w2 ⟨rfl,rfl⟩
  go_upto_region 2 with fail
  obtain ⟨W0,hW0⟩:=exq ((w.alloc (.cells #[.string ⟨#[]⟩,.int .i64 0,.int .i64 0] 41)).alloc (.cells #[.string s,.int .i64 0] 130))
  rw [hW0] at H0 ⊢
  clear hW0
  have h1:=H0.out.rd
  rw [str_bl] at h1
  have HTK:=hide (taken_any W0 (w.heap.size+1) s h1 h1.lt)
  clear h1
  obtain ⟨T,hT⟩:=exq (takeE (bl s))
  obtain ⟨C,hC⟩:=exq (rnS T.2 65535)
  have HD:Hid (decS (bl s)=if endE C.2.1 C.2.2=0∧T.1.sp=true∧okC C.1=true then some (T.1,C.1) else none):=by
    unfold Hid decS takeS
    rw [hT,hC]
  have HC:=hide hC
  rw [hT] at HTK
  clear hT hC
  obtain ⟨e,l,x⟩:=T
  obtain ⟨k,p,q⟩:=e
  obtain ⟨c,l2,x2⟩:=C
  unfold En.agg at HTK
  simp only [] at HTK HD HC
  go_wp2_with fail
  refine HTK.out.mono ?_
  rintro e W1 ⟨rfl,hr1,ho1⟩
  go_upto_region 3 with fail
  have H1:=hide (H0.out.take hr1 ho1)
  have HV:=hide (Ev.new W1 ⟨k,p,q⟩)
  have HA:=hide (onlyA W1 (.cells #[.string k,.int .i64 p,.int .i64 q] 41))
  have HS:Hid (w.heap.size+1 < W1.heap.size):=H1.out.rd.lt
  obtain ⟨b,hb⟩:=exq (W1.heap.size)
  rw [hb] at HV HS ⊢
  clear hb
  simp only [] at HV
  clear hr1 ho1 H0 HTK
  obtain ⟨W2,hW2⟩:=exq (W1.alloc (.cells #[.string k,.int .i64 p,.int .i64 q] 41))
  rw [hW2] at HV HA ⊢
  clear hW2
  have H2:=hide (H1.out.more HA.out)
  clear HA H1
  go_wp2_with fail
  refine (rnum_st W2 _ l x 65535 H2.out.rd).mono ?_
  rintro e W3 ⟨rfl,hr3,ho3⟩
  rw [HC.out] at hr3 ⊢
  have H3:=hide (H2.out.take hr3 ho3)
  have HV3:=hide (HV.out.kept ho3 (by have:=HS.out; omega))
  clear hr3 ho3 H2 HV
  simp only [] at H3
  have HIE:Hid (∀ W,Calls Tryz.prog 80 #[.agg #[.string k,.int .i64 p,.int .i64 q]] W fun x w'=>x=.returned (.bool (En.sp ⟨k,p,q⟩))∧Only (fun _=>False) W w'):=fun W=>separates_any ⟨k,p,q⟩ W
  have HIC:Hid (∀ W,Calls Tryz.prog 81 #[.int .i64 c] W fun x w'=>x=.returned (.bool (okC c))∧w'=W):=fun W=>isChild_any c W
  obtain ⟨O,hO⟩:=exq (En.sp ⟨k,p,q⟩)
  obtain ⟨U,hU⟩:=exq (okC c)
  rw [hO] at HIE HD
  rw [hU] at HIC HD
  clear hO hU
  have HRE:Hid (Calls Tryz.prog 59 #[.pointer (some ⟨w.heap.size+1,0,none⟩)] W3 fun e w'=>e=.returned (.int .i64 (endE l2 x2))∧w'=W3):=rend_stN W3 _ l2 x2 H3.out.rd
  obtain ⟨E,hE⟩:=exq (endE l2 x2)
  rw [hE] at HRE HD
  clear hE
  by_cases he:E=0
  · subst he
    have HDX:Hid (decS (bl s)=if O=true∧U=true then some (⟨k,p,q⟩,c) else none):=by unfold Hid; rw [HD.out]; simp
    clear HD
    have c0:=HV3.out.c0
    have c1:=HV3.out.c1
    have c2:=HV3.out.c2
    simp only [] at c0 c1 c2
    go_wp2_with fail
    refine HRE.out.mono ?_
    rintro e W4 ⟨rfl,h4⟩
    obtain rfl:=h4.symm
    go_wp2_with fail
    refine (HIE.out _).mono ?_
    rintro e W5 ⟨rfl,ho5⟩
    have H5:=hide (H3.out.more ho5)
    have HV5:=hide (HV3.out.more ho5)
    clear ho5 c0 c1 c2
    have c0:=HV5.out.c0
    have c1:=HV5.out.c1
    have c2:=HV5.out.c2
    simp only [] at c0 c1 c2
    have r0:=H5.out.res.c0
    have r1:=H5.out.res.c1
    have r2:=H5.out.res.c2
    have g0:=H5.out.res.f0
    have g1:=H5.out.res.f1
    have g2:=H5.out.res.f2
    cases O
    · go_wp2_with fail
      refine bodyPost_ret (results_ev3 rfl rfl (H5.out.res.all noE)) rfl ?_
      exact ⟨by rw [HDX.out]; rfl,H5.out.only.trans (Only.three _ _ _ _ _) (fun i hi e=>by omega)⟩
    · go_wp2_with fail
      refine (HIC.out _).mono ?_
      rintro e W6 ⟨rfl,h6⟩
      obtain rfl:=h6.symm
      cases U
      · go_wp2_with fail
        refine bodyPost_ret (results_ev3 rfl rfl (H5.out.res.all noE)) rfl ?_
        exact ⟨by rw [HDX.out]; rfl,H5.out.only.trans (Only.three _ _ _ _ _) (fun i hi e=>by omega)⟩
      · go_wp2_with fail
        refine bodyPost_ret (results_ev3 rfl rfl (H5.out.res.all ⟨k,p,q⟩)) rfl ?_
        exact ⟨by rw [HDX.out]; rfl,H5.out.only.trans (Only.three _ _ _ _ _) (fun i hi e=>by omega)⟩
  · have he':(E != 0)=true:=by simpa using he
    have HDX:Hid (decS (bl s)=none):=by unfold Hid; rw [HD.out,if_neg (fun h=>he h.1)]
    clear he HD
    have r0:=H3.out.res.c0
    have r1:=H3.out.res.c1
    have r2:=H3.out.res.c2
    have g0:=H3.out.res.f0
    have g1:=H3.out.res.f1
    have g2:=H3.out.res.f2
    go_wp2_with fail
    refine HRE.out.mono ?_
    rintro e W4 ⟨rfl,h4⟩
    obtain rfl:=h4.symm
    go_wp2_with fail
    refine bodyPost_ret (results_ev3 rfl rfl (H3.out.res.all noE)) rfl ?_
    exact ⟨by rw [HDX.out]; rfl,H3.out.only.trans (Only.three _ _ _ _ _) (fun i hi e=>by omega)⟩
end Go.Proofs.YtipkeeobmihogaaGreat
