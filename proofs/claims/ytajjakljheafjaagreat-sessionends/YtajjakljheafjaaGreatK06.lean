/- Parts. -/
import Derived.Test.YtajjakljheafjaaGreatK05
import Derived.Deep.RegionHeld3
import Derived.Deep.Draws
set_option maxRecDepth 100000
namespace Go.Proofs.YtajjakljheafjaaGreat
open Go.RowKit
def En.agg (e:En):Value:=.agg #[.string e.key,.int .i64 e.page,.int .i64 e.slot]
def nm (n:Int):Bool:=decide (0≤n∧n≤65535)
theorem nm_eq (n:Int):nm n=(decide (0≤n) && decide (n≤65535)):=by unfold nm; rw [Bool.eq_iff_iff]; simp
theorem okC_eq (n:Int):okC n=(decide (1≤n) && decide (n≤65535)):=by unfold okC; rw [Bool.eq_iff_iff]; simp
theorem En.ok_eq (e:En):e.ok=(decide ((1:Int)≤e.key.size) && decide ((e.key.size:Int)≤24) && nm e.page && nm e.slot):=by
  unfold En.ok nm
  rw [Bool.eq_iff_iff]
  simp only [Bool.and_eq_true,decide_eq_true_eq]
  omega
theorem isNumber_any (n:Int) (w:World):Calls Tryz.prog 126 #[.int .i64 n] w fun e w'=>e=.returned (.bool (nm n))∧w'=w:=by
  rw [nm_eq]
  by_cases h1:(0:Int)≤n
  · go_enter Tryz.func126,Tryz.ntmps126
    go_wp2
    go_ret
    exact ⟨by simp [h1],rfl⟩
  · go_enter Tryz.func126,Tryz.ntmps126
    go_wp2
    go_ret
    exact ⟨by simp; omega,rfl⟩
theorem isChild_any (n:Int) (w:World):Calls Tryz.prog 146 #[.int .i64 n] w fun e w'=>e=.returned (.bool (okC n))∧w'=w:=by
  rw [okC_eq]
  by_cases h1:(1:Int)≤n
  · go_enter Tryz.func146,Tryz.ntmps146
    go_wp2
    go_ret
    exact ⟨by simp [h1],rfl⟩
  · go_enter Tryz.func146,Tryz.ntmps146
    go_wp2
    go_ret
    exact ⟨by simp; omega,rfl⟩
set_option maxHeartbeats 800000 in
theorem isEntry_any (e:En) (w:World):Calls Tryz.prog 84 #[e.agg] w fun x w'=>x=.returned (.bool e.ok)∧Only (fun _=>False) w w':=by
  rw [En.ok_eq]
  obtain ⟨k,p,s⟩:=e
  unfold En.agg
  simp only []
  have HO:=hide (onlyA w (.cells #[.string k,.int .i64 p,.int .i64 s] 89))
  obtain ⟨bp,hbp⟩:=exq (nm p)
  obtain ⟨bs,hbs⟩:=exq (nm s)
  have HP:Hid (∀ W,Calls Tryz.prog 126 #[.int .i64 p] W fun e w'=>e=.returned (.bool bp)∧w'=W):=fun W=>by have:=isNumber_any p W; rwa [hbp] at this
  have HS:Hid (∀ W,Calls Tryz.prog 126 #[.int .i64 s] W fun e w'=>e=.returned (.bool bs)∧w'=W):=fun W=>by have:=isNumber_any s W; rwa [hbs] at this
  rw [hbp,hbs]
  clear hbp hbs
  by_cases h1:(1:Int)≤k.size
  · by_cases h2:(k.size:Int)≤24
    · go_enter Tryz.func84,Tryz.ntmps84
      go_wp2_with fail
      refine (HP.out _).mono ?_
      rintro e w1 ⟨rfl,h⟩
      obtain rfl:=h.symm
      cases bp with
      | true=>
        go_wp2_with fail
        refine (HS.out _).mono ?_
        rintro e w1 ⟨rfl,h⟩
        obtain rfl:=h.symm
        go_wp2_with fail
        go_ret
        exact ⟨by simp [h1,h2],HO.out⟩
      | false=>
        go_wp2_with fail
        go_ret
        exact ⟨by simp,HO.out⟩
    · go_enter Tryz.func84,Tryz.ntmps84
      go_wp2_with fail
      go_ret
      exact ⟨by simp; intros; omega,HO.out⟩
  · go_enter Tryz.func84,Tryz.ntmps84
    go_wp2_with fail
    go_ret
    exact ⟨by simp; intros; omega,HO.out⟩
theorem ba_eqN {s t:ByteArray} (h:s=t):(s.toList == t.toList)=true:=by simp [h]
theorem ba_neN {s t:ByteArray} (h:¬ s=t):(s.toList == t.toList)=false:=by
  cases e:(s.toList == t.toList) with
  | false=>rfl
  | true=>
    refine absurd ?_ h
    have e':s.toList=t.toList:=by simpa using e
    rw [ByteArray.toList_eq,ByteArray.toList_eq] at e'
    exact bl_injN e'
theorem eqE_run (a b:En) (w:World):(binOp .eql 89 (.agg #[.string a.key,.int .i64 a.page,.int .i64 a.slot]) (.agg #[.string b.key,.int .i64 b.page,.int .i64 b.slot])).run Tryz.prog w=.ok (.bool (decide (a=b))) w:=by
  obtain ⟨k,p,s⟩:=a
  obtain ⟨k',p',s'⟩:=b
  by_cases h1:k=k'
  · by_cases h2:p=p'
    · by_cases h3:s=s'
      · subst h1 h2 h3
        simp [go_sem]
      · simp [go_sem,h1,h2,h3]
    · simp [go_sem,h1,h2]
  · have h4:=ba_neN h1
    have h5:¬ k.toList=k'.toList:=by simpa using h4
    simp [go_sem,h1,h5]
theorem isLeast_any (e:En) (w:World):Calls Tryz.prog 127 #[e.agg] w fun x w'=>x=.returned (.bool (decide (e=noE)))∧Only (fun _=>False) w w':=by
  have he:∀ W,(binOp .eql 89 (.agg #[.string e.key,.int .i64 e.page,.int .i64 e.slot]) (.agg #[.string ⟨#[]⟩,.int .i64 0,.int .i64 0])).run Tryz.prog W=.ok (.bool (decide (e=noE))) W:=fun W=>eqE_run e noE W
  obtain ⟨b,hb⟩:=exq (decide (e=noE))
  rw [hb] at he ⊢
  clear hb
  obtain ⟨k,p,s⟩:=e
  unfold En.agg
  simp only [] at he ⊢
  have HO:=hide (onlyA w (.cells #[.string k,.int .i64 p,.int .i64 s] 89))
  go_enter Tryz.func127,Tryz.ntmps127
  go_wp2_with fail
  go_ret
  exact ⟨rfl,HO.out⟩
theorem separates_any (e:En) (w:World):Calls Tryz.prog 145 #[e.agg] w fun x w'=>x=.returned (.bool e.sp)∧Only (fun _=>False) w w':=by
  have HL:Hid (∀ W,Calls Tryz.prog 127 #[e.agg] W fun x w'=>x=.returned (.bool (decide (e=noE)))∧Only (fun _=>False) W w'):=fun W=>isLeast_any e W
  have HE:Hid (∀ W,Calls Tryz.prog 84 #[e.agg] W fun x w'=>x=.returned (.bool e.ok)∧Only (fun _=>False) W w'):=fun W=>isEntry_any e W
  unfold En.sp
  obtain ⟨b,hb⟩:=exq (decide (e=noE))
  obtain ⟨c,hc⟩:=exq (e.ok)
  rw [hb] at HL ⊢
  rw [hc] at HE ⊢
  clear hb hc
  obtain ⟨k,p,s⟩:=e
  unfold En.agg at HL HE ⊢
  simp only [] at HL HE ⊢
  have HO:=hide (onlyA w (.cells #[.string k,.int .i64 p,.int .i64 s] 89))
  cases b with
  | true=>
    go_enter Tryz.func145,Tryz.ntmps145
    go_wp2_with fail
    refine (HL.out _).mono ?_
    rintro x w1 ⟨rfl,ho⟩
    have HO1:=hide (o2 HO.out ho)
    clear ho
    go_wp2_with fail
    go_ret
    exact ⟨rfl,HO1.out⟩
  | false=>
    have c0:(w.alloc (.cells #[.string k,.int .i64 p,.int .i64 s] 89)).cell? ⟨w.heap.size,0,none⟩=some (.string k):=by simp
    have c1:(w.alloc (.cells #[.string k,.int .i64 p,.int .i64 s] 89)).cell? ⟨w.heap.size,1,none⟩=some (.int .i64 p):=by simp
    have c2:(w.alloc (.cells #[.string k,.int .i64 p,.int .i64 s] 89)).cell? ⟨w.heap.size,2,none⟩=some (.int .i64 s):=by simp
    have hz:w.heap.size < (w.alloc (.cells #[.string k,.int .i64 p,.int .i64 s] 89)).heap.size:=by simp
    have HC:=hide (And.intro c0 (And.intro c1 (And.intro c2 hz)))
    clear c0 c1 c2 hz
    go_enter Tryz.func145,Tryz.ntmps145
    go_wp2_with fail
    refine (HL.out _).mono ?_
    rintro x w1 ⟨rfl,ho⟩
    have HO1:=hide (o2 HO.out ho)
    have d0:=(ho.cell (p:=⟨w.heap.size,0,none⟩) HC.out.2.2.2 (fun h=>h)).trans HC.out.1
    have d1:=(ho.cell (p:=⟨w.heap.size,1,none⟩) HC.out.2.2.2 (fun h=>h)).trans HC.out.2.1
    have d2:=(ho.cell (p:=⟨w.heap.size,2,none⟩) HC.out.2.2.2 (fun h=>h)).trans HC.out.2.2.1
    clear ho
    go_wp2_with fail
    refine (HE.out _).mono ?_
    rintro x w2 ⟨rfl,ho⟩
    have HO2:=hide (o2 HO1.out ho)
    clear ho
    go_wp2_with fail
    go_ret
    exact ⟨by simp,HO2.out⟩
theorem bless_lt {a b:ByteArray}:Op.bytesLess a.toList b.toList=decide (bl a < bl b):=by
  rw [bytesLess_eq,ByteArray.toList_eq,ByteArray.toList_eq]
set_option maxHeartbeats 800000 in
theorem isAhead_any (a b:En) (w:World):Calls Tryz.prog 156 #[a.agg,b.agg] w fun x w'=>x=.returned (.bool (decide (a.lt b)))∧Only (fun _=>False) w w':=by
  obtain ⟨k,p,s⟩:=a
  obtain ⟨k',p',s'⟩:=b
  unfold En.agg En.lt
  simp only []
  have HO:=hide (o2 (onlyA w (.cells #[.string k,.int .i64 p,.int .i64 s] 89)) (onlyA _ (.cells #[.string k',.int .i64 p',.int .i64 s'] 89)))
  obtain ⟨B,hB⟩:=exq (decide (if k=k' then (if p=p' then s < s' else p < p') else bl k < bl k'))
  rw [hB]
  have HB:=hide hB
  clear hB
  by_cases h1:k=k'
  · have e1:=ba_eqN h1
    have H1:=hide h1
    clear h1
    by_cases h2:p=p'
    · have e2:(p == p')=true:=by simpa using h2
      have H2:=hide h2
      clear h2
      go_enter Tryz.func156,Tryz.ntmps156
      go_wp2_with fail
      go_ret
      exact ⟨ret_bool (by rw [← HB.out]; exact decide_eq_decide.2 (by rw [if_pos H1.out,if_pos H2.out])),HO.out⟩
    · have e2:(p == p')=false:=by simpa using h2
      have H2:=hide h2
      clear h2
      go_enter Tryz.func156,Tryz.ntmps156
      go_wp2_with fail
      go_ret
      exact ⟨ret_bool (by rw [← HB.out]; exact decide_eq_decide.2 (by rw [if_pos H1.out,if_neg H2.out])),HO.out⟩
  · have e1:=ba_neN h1
    have H1:=hide h1
    clear h1
    go_enter Tryz.func156,Tryz.ntmps156
    go_wp2_with fail
    go_ret
    exact ⟨ret_bool (by rw [← HB.out,bless_lt]; exact decide_eq_decide.2 (by rw [if_neg H1.out])),HO.out⟩
structure Eb (w:World) (b o:Nat) (e:En):Prop where
  c0:w.cell? ⟨b,o,none⟩=some (.string e.key)
  c1:w.cell? ⟨b,o+1,none⟩=some (.int .i64 e.page)
  c2:w.cell? ⟨b,o+2,none⟩=some (.int .i64 e.slot)
  lt:b < w.heap.size
theorem Eb.kept {S:Nat→Prop} {w w':World} {b o:Nat} {e:En} (h:Eb w b o e) (ho:Only S w w') (hS:¬ S b):Eb w' b o e :=
  ⟨(ho.cell (p:=⟨b,o,none⟩) h.lt hS).trans h.c0,(ho.cell (p:=⟨b,o+1,none⟩) h.lt hS).trans h.c1,(ho.cell (p:=⟨b,o+2,none⟩) h.lt hS).trans h.c2,Nat.lt_of_lt_of_le h.lt ho.size⟩
theorem Eb.more {w w':World} {b o:Nat} {e:En} (h:Eb w b o e) (ho:Only (fun _=>False) w w'):Eb w' b o e:=h.kept ho (fun h=>h)
theorem Eb.new (w:World) (e:En):Eb (w.alloc (.cells #[.string e.key,.int .i64 e.page,.int .i64 e.slot] 89)) w.heap.size 0 e:=⟨by simp,by simp,by simp,by simp⟩
set_option maxHeartbeats 800000 in
theorem compare_any (a b:En) (w:World):Calls Tryz.prog 125 #[a.agg,b.agg] w fun x w'=>x=.returned (.int .i64 (cmpE a b))∧Only (fun _=>False) w w':=by
  have he:=eqE_run a b
  have HA:Hid (∀ W,Calls Tryz.prog 156 #[a.agg,b.agg] W fun x w'=>x=.returned (.bool (decide (a.lt b)))∧Only (fun _=>False) W w'):=fun W=>isAhead_any a b W
  have HO:=hide (o2 (onlyA w (.cells #[.string a.key,.int .i64 a.page,.int .i64 a.slot] 89)) (onlyA _ (.cells #[.string b.key,.int .i64 b.page,.int .i64 b.slot] 89)))
  by_cases h:a=b
  · have hz:cmpE a b=0:=cmpE_zero.2 h
    have hd:decide (a=b)=true:=decide_eq_true h
    rw [hd] at he
    rw [hz]
    clear h hd hz HA
    obtain ⟨k,p,s⟩:=a
    obtain ⟨k',p',s'⟩:=b
    unfold En.agg
    simp only [] at he HO ⊢
    go_enter Tryz.func125,Tryz.ntmps125
    go_wp2_with fail
    go_ret
    exact ⟨rfl,HO.out⟩
  · have hd:decide (a=b)=false:=decide_eq_false h
    rw [hd] at he
    have hz:cmpE a b=if a.lt b then -1 else 1:=by unfold cmpE; rw [if_neg h]
    rw [hz]
    clear h hd hz
    by_cases h:a.lt b
    · have hd:decide (a.lt b)=true:=decide_eq_true h
      rw [hd] at HA
      rw [if_pos h]
      clear h hd
      obtain ⟨k,p,s⟩:=a
      obtain ⟨k',p',s'⟩:=b
      unfold En.agg at HA ⊢
      simp only [] at he HO HA ⊢
      go_enter Tryz.func125,Tryz.ntmps125
      go_wp2_with fail
      refine (HA.out _).mono ?_
      rintro x w1 ⟨rfl,ho⟩
      have HO1:=hide (o2 HO.out ho)
      clear ho
      go_wp2_with fail
      go_ret
      exact ⟨rfl,HO1.out⟩
    · have hd:decide (a.lt b)=false:=decide_eq_false h
      rw [hd] at HA
      rw [if_neg h]
      clear h hd
      obtain ⟨k,p,s⟩:=a
      obtain ⟨k',p',s'⟩:=b
      unfold En.agg at HA ⊢
      simp only [] at he HO HA ⊢
      go_enter Tryz.func125,Tryz.ntmps125
      go_wp2_with fail
      refine (HA.out _).mono ?_
      rintro x w1 ⟨rfl,ho⟩
      have HO1:=hide (o2 HO.out ho)
      clear ho
      go_wp2_with fail
      go_ret
      exact ⟨rfl,HO1.out⟩
theorem nums_two (a b:Int):nums [a,b]=sev a.toNat++sev b.toNat:=by simp [nums]
theorem nums_one (a:Int):nums [a]=sev a.toNat:=by simp [nums]
theorem Wr.only {w W W':World} {b:Nat} {row row':Option Nat} {l:List UInt8} (h:Wr W b row l) (hb:w.heap.size≤b) (ho:Only (fun _=>False) w W) (hg:WGro W W' b row row'):Only (fun _=>False) w W':=by
  refine ho.trans hg.only ?_
  rintro i hi (e | e)
  · omega
  · have:=(h.rowLt i e.symm).1
    omega
def Nms (w:World) (ao:Option Addr) (zs:List Int):Prop:=zs=[]∨∃ g o,ao=some ⟨g,o,none⟩∧g < w.heap.size∧∀ k,k < zs.length→w.cell? ⟨g,o+k,none⟩=some (.int .i64 (zs.getD k 0))
theorem wnum_nms (w W:World) (b:Nat) (row:Option Nat) (l:List UInt8) (ao:Option Addr) (cap:Nat) (zs:List Int) (hW:Wr W b row l) (hN:Nms w ao zs) (ho:Only (fun _=>False) w W) (hb:w.heap.size≤b) (hz:∀ k,k < zs.length→zs.getD k 0 < 9223372036854775808) (hl:l.length+10 * zs.length+10≤158329674399744) :
    Calls Tryz.prog 66 #[.pointer (some ⟨b,0,none⟩),.slice ao zs.length cap] W fun e w'=>e=.returned (.tuple #[])∧∃ row',Wr w' b row' (l++nums zs)∧WGro W w' b row row':=by
  rcases hN with rfl | ⟨g,o,rfl,hg,hc⟩
  · refine (wnum_none W b ao cap).mono ?_
    rintro e w1 ⟨rfl,rfl⟩
    exact ⟨rfl,row,by simpa [nums] using hW,WGro.refl _ _ _⟩
  · refine wnum_any W b row l zs g o cap hW (fun k hk=>(ho.cell (p:=⟨g,o+k,none⟩) hg (fun h=>h)).trans (hc k hk)) hz (by omega) ?_ (Nat.lt_of_lt_of_le hg ho.size) hl
    intro e
    have:=(hW.rowLt g e.symm).1
    omega
theorem wnum_two (w:World) (b:Nat) (row:Option Nat) (l:List UInt8) (y z:Int) (hW:Wr w b row l) (hy:y < 9223372036854775808) (hz:z < 9223372036854775808) (hl:l.length+40≤158329674399744) :
    Calls Tryz.prog 66 #[.pointer (some ⟨b,0,none⟩),.slice (some ⟨w.heap.size,0,none⟩) 2 2] (w.alloc (.cells #[.int .i64 y,.int .i64 z] 3)) fun e w'=>e=.returned (.tuple #[])∧∃ row',Wr w' b row' (l++nums [y,z])∧WGro w w' b row row':=by
  have hW1:Wr (w.alloc (.cells #[.int .i64 y,.int .i64 z] 3)) b row l:=hW.kept (Only.alloc (fun _=>False) w _) (fun h=>h) (fun _ _ h=>h)
  have hb:=hW.lt
  have h:=wnum_any (w.alloc (.cells #[.int .i64 y,.int .i64 z] 3)) b row l [y,z] w.heap.size 0 2 hW1
    (by intro k hk
        match k,hk with
        | 0,_=>simp
        | 1,_=>simp)
    (by intro k hk
        match k,hk with
        | 0,_=>simpa using hy
        | 1,_=>simpa using hz)
    (by omega) (by intro e; have:=(hW.rowLt _ e.symm).2; omega) (by simp) (by simp; omega)
  refine Calls.mono h ?_
  rintro e w' ⟨he,row',h1,h2⟩
  exact ⟨he,row',h1,(WGro.alloc w _ b row).trans h2⟩
set_option maxHeartbeats 800000 in
theorem laid_any (e:En) (w:World) (ao:Option Addr) (cap:Nat) (zs:List Int) (hf:e.few) (hN:Nms w ao zs) (hl:zs.length≤1) (hz:∀ k,k < zs.length→zs.getD k 0 < 9223372036854775808) :
    Calls Tryz.prog 88 #[e.agg,.slice ao zs.length cap] w fun x w'=>x=.returned (.string (str (e.lay++nums zs)))∧Only (fun _=>False) w w':=by
  have HN:=hide hN
  have HZ:=hide hz
  have HO:=hide (onlyA w (.cells #[.string e.key,.int .i64 e.page,.int .i64 e.slot] 89))
  have HL:Hid (e.lay=(sev e.key.size++e.key.data.toList)++nums [e.page,e.slot]):=by
    unfold Hid
    rw [nums_two]
    rfl
  have HK:Hid (e.key.size≤24):=hf.1
  have HP:Hid (e.page < 9223372036854775808∧e.slot < 9223372036854775808):=⟨by have:=hf.2; omega,by have:=hf.2; omega⟩
  have HEb:=hide (Eb.new w e)
  have HLL:Hid (e.lay.length+10 * zs.length≤55):=by
    have:=lay_len hf.1
    unfold Hid
    omega
  obtain ⟨L,hL⟩:=exq (e.lay)
  rw [hL] at HL HLL ⊢
  clear hN hz hf hL
  obtain ⟨k,p,s⟩:=e
  unfold En.agg
  simp only [] at HO HL HK HP HEb ⊢
  obtain ⟨W0,hW0⟩:=exq (w.alloc (.cells #[.string k,.int .i64 p,.int .i64 s] 89))
  go_enter Tryz.func88,Tryz.ntmps88
  rw [hW0] at HO HEb
  go_wp2_with fail
  refine (new_any _).mono ?_
  rintro x w1 ⟨rfl,hw1⟩
  have HW1:=hide (Wr.new W0)
  have HO1:=hide (o2 HO.out (onlyA W0 (.cells #[.slice none 0 0] 189)))
  have HE1:=hide (HEb.out.more (onlyA W0 (.cells #[.slice none 0 0] 189)))
  have hs0:w.heap.size < W0.heap.size:=HEb.out.lt
  have HS0:=hide hs0
  rw [← hw1] at HW1 HO1 HE1
  clear hw1 hs0 hW0 HO HEb
  have c0:=HE1.out.c0
  go_wp2_with fail
  refine (wtext_any w1 W0.heap.size none [] k HW1.out (by have:=HK.out; simp; omega)).mono ?_
  rintro x w2 ⟨rfl,row2,hW2,hg2⟩
  have HO2:=hide (HW1.out.only (Nat.le_of_lt HS0.out) HO1.out hg2)
  have HE2 := hide (HE1.out.kept hg2.only (by rintro (h | h)
                                              · have:=HS0.out; omega
                                              · cases h))
  have HW2:=hide hW2
  rw [List.nil_append] at HW2
  clear hW2 hg2 c0 HE1 HO1 HW1
  have c1:=HE2.out.c1
  have c2:=HE2.out.c2
  simp only [Nat.zero_add] at c1 c2
  go_wp2_with fail
  refine (wnum_two w2 W0.heap.size row2 _ p s HW2.out HP.out.1 HP.out.2 (by have:=HK.out; have h1:=sev_le k.size; have h2:=bl_len k; unfold bl at h2; simp only [List.length_append]; omega)).mono ?_
  rintro x w3 ⟨rfl,row3,hW3,hg3⟩
  rw [← HL.out] at hW3
  have HO3:=hide (HW2.out.only (Nat.le_of_lt HS0.out) HO2.out hg3)
  have HW3:=hide hW3
  clear hW3 hg3 c1 c2 HE2 HO2 HW2
  go_wp2_with fail
  refine (wnum_nms w w3 W0.heap.size row3 _ ao cap zs HW3.out HN.out HO3.out (Nat.le_of_lt HS0.out) HZ.out (by have:=HLL.out; omega)).mono ?_
  rintro x w4 ⟨rfl,row4,hW4,hg4⟩
  have HO4:=hide (HW3.out.only (Nat.le_of_lt HS0.out) HO3.out hg4)
  have HW4:=hide hW4
  clear hW4 hg4 HO3 HW3
  go_wp2_with fail
  refine (wbytes_any w4 W0.heap.size row4 _ HW4.out).mono ?_
  rintro x w5 ⟨rfl,rfl⟩
  go_wp2_with fail
  go_ret
  exact ⟨rfl,HO4.out⟩
theorem laid_one (e:En) (w:World) (hf:e.few):Calls Tryz.prog 88 #[e.agg,.slice none 0 0] w fun x w'=>x=.returned (.string e.enc)∧Only (fun _=>False) w w':=by
  have h:=laid_any e w none 0 [] hf (.inl rfl) (by simp) (fun k hk=>by simp at hk)
  have e0:e.lay++nums []=e.lay:=by simp [nums]
  rw [e0] at h
  exact h
theorem laid_two (e:En) (w W:World) (c:Int) (hf:e.few) (hc:c < 9223372036854775808) (hW:Only (fun _=>False) (w.alloc (.cells #[.int .i64 c] 3)) W):Calls Tryz.prog 88 #[e.agg,.slice (some ⟨w.heap.size,0,none⟩) 1 1] W fun x w'=>x=.returned (.string (e.encS c))∧Only (fun _=>False) W w':=by
  have h:=laid_any e W (some ⟨w.heap.size,0,none⟩) 1 [c] hf (.inr ⟨w.heap.size,0,rfl,Nat.lt_of_lt_of_le (by simp) hW.size,fun k hk=>by
    have:k=0:=by simpa using hk
    subst this
    rw [hW.cell (p:=⟨w.heap.size,0+0,none⟩) (by simp) (fun h=>h)]
    simp⟩) (by simp) (fun k hk=>by
    have:k=0:=by simpa using hk
    subst this
    simpa using hc)
  rw [nums_one] at h
  exact h
def outC (o:Bool) (s:ByteArray):Value:=.tuple #[.string (if o then s else ⟨#[]⟩),.int .i64 (if o then 0 else 140)]
theorem encode_any (e:En) (w:World):Calls Tryz.prog 60 #[e.agg] w fun x w'=>x=.returned (outC e.ok e.enc)∧Only (fun _=>False) w w':=by
  have HC:Hid (∀ W,Calls Tryz.prog 84 #[e.agg] W fun x w'=>x=.returned (.bool e.ok)∧Only (fun _=>False) W w'):=fun W=>isEntry_any e W
  have HE:Hid (e.ok=true→∀ W,Calls Tryz.prog 88 #[e.agg,.slice none 0 0] W fun x w'=>x=.returned (.string e.enc)∧Only (fun _=>False) W w'):=fun h W=>laid_one e W (En.few_ok h)
  have HO:=hide (onlyA w (.cells #[.string e.key,.int .i64 e.page,.int .i64 e.slot] 89))
  have HEb:=hide (Eb.new w e)
  obtain ⟨E,hE⟩:=exq (e.enc)
  obtain ⟨b,hb⟩:=exq (e.ok)
  rw [hE,hb]
  rw [hb] at HC
  rw [hE,hb] at HE
  clear hE hb
  obtain ⟨k,p,s⟩:=e
  unfold En.agg at HC HE ⊢
  simp only [] at HC HE HO HEb ⊢
  go_enter Tryz.func60,Tryz.ntmps60
  go_wp2_with fail
  refine (HC.out _).mono ?_
  rintro x w1 ⟨rfl,ho⟩
  have HO1:=hide (o2 HO.out ho)
  have HE1:=hide (HEb.out.more ho)
  clear ho HO HEb
  cases b with
  | false=>
    go_wp2_with fail
    go_ret2
    exact ⟨rfl,HO1.out⟩
  | true=>
    have HE2:=hide (HE.out rfl)
    have c0:=HE1.out.c0
    have c1:=HE1.out.c1
    have c2:=HE1.out.c2
    simp only [Nat.zero_add] at c0 c1 c2
    go_wp2_with fail
    refine (HE2.out _).mono ?_
    rintro x w2 ⟨rfl,ho⟩
    have HO2:=hide (o2 HO1.out ho)
    clear ho
    go_wp2_with fail
    go_ret2
    exact ⟨rfl,HO2.out⟩
set_option maxHeartbeats 800000 in
theorem sep_any (e:En) (c:Int) (w:World):Calls Tryz.prog 176 #[e.agg,.int .i64 c] w fun x w'=>x=.returned (outC (e.sp && okC c) (e.encS c))∧Only (fun _=>False) w w':=by
  have HC:Hid (∀ W,Calls Tryz.prog 145 #[e.agg] W fun x w'=>x=.returned (.bool e.sp)∧Only (fun _=>False) W w'):=fun W=>separates_any e W
  have HD:Hid (∀ W,Calls Tryz.prog 146 #[.int .i64 c] W fun x w'=>x=.returned (.bool (okC c))∧w'=W):=fun W=>isChild_any c W
  have HE:Hid (e.sp=true→okC c=true→∀ (W W':World),Only (fun _=>False) (W.alloc (.cells #[.int .i64 c] 3)) W'→Calls Tryz.prog 88 #[e.agg,.slice (some ⟨W.heap.size,0,none⟩) 1 1] W' fun x w'=>x=.returned (.string (e.encS c))∧Only (fun _=>False) W' w'):=fun h hc W W' ho=>laid_two e W W' c (En.few_sp h) (by have:=(okC_iff.1 hc).2; omega) ho
  have HO:=hide (onlyA w (.cells #[.string e.key,.int .i64 e.page,.int .i64 e.slot] 89))
  have HEb:=hide (Eb.new w e)
  obtain ⟨E,hE⟩:=exq (e.encS c)
  obtain ⟨b,hb⟩:=exq (e.sp)
  obtain ⟨d,hd⟩:=exq (okC c)
  rw [hE,hb,hd]
  rw [hb] at HC
  rw [hd] at HD
  rw [hE,hb,hd] at HE
  clear hE hb hd
  obtain ⟨k,p,s⟩:=e
  unfold En.agg at HC HE ⊢
  simp only [] at HC HE HO HEb ⊢
  go_enter Tryz.func176,Tryz.ntmps176
  go_wp2_with fail
  refine (HC.out _).mono ?_
  rintro x w1 ⟨rfl,ho⟩
  have HO1:=hide (o2 HO.out ho)
  have HE1:=hide (HEb.out.more ho)
  clear ho HO HEb
  cases b with
  | false=>
    go_wp2_with fail
    go_ret2
    exact ⟨rfl,HO1.out⟩
  | true=>
    have HE0:=hide (HE.out rfl)
    clear HE
    go_wp2_with fail
    refine (HD.out _).mono ?_
    rintro x w2 ⟨rfl,h⟩
    obtain rfl:=h.symm
    cases d with
    | false=>
      go_wp2_with fail
      go_ret2
      exact ⟨rfl,HO1.out⟩
    | true=>
      have HE2:=hide (HE0.out rfl)
      have c0:=HE1.out.c0
      have c1:=HE1.out.c1
      have c2:=HE1.out.c2
      simp only [Nat.zero_add] at c0 c1 c2
      go_wp2_with fail
      refine (HE2.out _ _ (Only.refl _ _)).mono ?_
      rintro x w2 ⟨rfl,ho⟩
      have HO2:=hide (o2 (o2 HO1.out (onlyA _ _)) ho)
      clear ho
      go_wp2_with fail
      go_ret2
      exact ⟨rfl,HO2.out⟩
end Go.Proofs.YtajjakljheafjaaGreat
