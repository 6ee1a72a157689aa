/- Parts. -/
import Derived.Test.YtipkeeobmihogaaGreatK20
import Derived.Test.YtipkeeobmihogaaGreatK28
set_option maxRecDepth 100000
namespace Go.Proofs.YtipkeeobmihogaaGreat
open Go.RowKit
theorem ret_str {a b:ByteArray} (h:a=b):Ending.returned (.string a)=.returned (.string b):=by rw [h]
theorem xtext_err (w:World) (x:Nat) (s:ByteArray) (p:Nat) (y z:Int) (h:XR w x s p y) (hy:(y != 0)=true) (hy2:(y == 0)=false) :
    Calls Tryz.prog 61 #[.pointer (some ⟨x,0,none⟩),.int .i64 z] w fun e w'=>e=.returned (.string ⟨#[]⟩)∧Only (fun _=>False) w w':=by
  have HX:=hide h
  obtain ⟨c0,c1,c2,f0,f1,f2,hl⟩:=h
  go_enter Tryz.func61,Tryz.ntmps61
  go_wp2_with fail
  refine (xnum_err _ x s p y z (unhide HX) hy).mono ?_
  rintro e w1 ⟨rfl,rfl⟩
  go_wp2_with fail
  go_region
  go_wp2_with fail
  go_ret
  exact ⟨rfl,Only.drew _ _⟩
set_option maxHeartbeats 1600000 in
theorem xtext_any (w:World) (x:Nat) (s:ByteArray) (p:Nat) (z:Int) (h:XR w x s p 0) (hp:p≤s.size) (hs:s.size≤maxLen - 100) :
    Calls Tryz.prog 61 #[.pointer (some ⟨x,0,none⟩),.int .i64 z] w fun e w'=>e=.returned (.string ⟨(rdT z (s.data.toList.drop p)).1.toArray⟩)∧XPost w w' x s (rdT z (s.data.toList.drop p)).2.1 (rdT z (s.data.toList.drop p)).2.2:=by
  have hcall:=xnum_any w x s p z h hp hs
  have hfx:=rdN_facts z (s.data.toList.drop p)
  unfold maxLen at hs
  by_cases hx:(rdN z (s.data.toList.drop p)).2.2=0
  · by_cases hsh:((rdN z (s.data.toList.drop p)).2.1.length:Int) < (rdN z (s.data.toList.drop p)).1
    · rw [rdT_short hx hsh]
      generalize rdN z (s.data.toList.drop p)=N at *
      obtain ⟨n,t,y⟩:=N
      simp only at hx hsh hfx hcall
      subst hx
      have HC:=hide hcall
      clear hcall
      go_enter Tryz.func61,Tryz.ntmps61
      go_wp2_with fail
      refine (unhide HC).mono ?_
      rintro e w1 ⟨rfl,p',hX1,hpl,ho1⟩
      obtain ⟨hp1,ht⟩:=hpl rfl
      have hlen:s.size - p'=t.length:=by rw [← ht]; simp
      have hgt:(s.size:Int) - (p':Int) < n:=by omega
      have HX1:=hide (And.intro hX1 ho1)
      obtain ⟨c0,c1,c2,f0,f1,f2,hl⟩:=hX1
      clear hpl ht ho1 hlen hfx hsh
      go_wp2_with fail
      go_region
      go_wp2_with fail
      refine (wrong_any _ x s p' 0 10 (unhide HX1).1.drew).mono ?_
      rintro e w2 ⟨rfl,hw2⟩
      have hX2:XR w2 x s p' 10:=by rw [hw2]; exact (unhide HX1).1.drew.set2 10
      have hP2:XPost w w2 x s [] 10:=by
        rw [hw2]
        exact xp_wrong (unhide HX1).1.drew ((unhide HX1).2.trans (Only.drew (fun _=>False) _) (fun _ _ h=>h.elim)) (by decide) (Only.refl _ _)
      have HP2:=hide hP2
      clear hw2 hP2 c0 c1 c2 f0 f1 f2 hl
      obtain ⟨c0,c1,c2,f0,f1,f2,hl⟩:=hX2
      go_wp2_with fail
      go_ret
      exact ⟨rfl,unhide HP2⟩
    · rw [rdT_ok hx hsh]
      generalize rdN z (s.data.toList.drop p)=N at *
      obtain ⟨n,t,y⟩:=N
      simp only at hx hsh hfx hcall ⊢
      subst hx
      obtain ⟨m,rfl⟩:=Int.eq_ofNat_of_zero_le hfx.1
      have HC:=hide hcall
      clear hcall
      go_enter Tryz.func61,Tryz.ntmps61
      go_wp2_with fail
      refine (unhide HC).mono ?_
      rintro e w1 ⟨rfl,p',hX1,hpl,ho1⟩
      obtain ⟨hp1,ht⟩:=hpl rfl
      have hlen:s.size - p'=t.length:=by rw [← ht]; simp
      have hgt:¬ (s.size:Int) - (p':Int) < (m:Int):=by omega
      obtain ⟨k,hk⟩:∃ k:Nat,p'+m=k:=⟨_,rfl⟩
      have hpk:(p':Int)+(m:Int)=(k:Int):=by omega
      have hk1:k≤s.size:=by omega
      have hk2:p'≤k:=by omega
      have HX1:=hide (And.intro hX1 (And.intro ho1 (And.intro ht hk)))
      obtain ⟨c0,c1,c2,f0,f1,f2,hl⟩:=hX1
      clear hpl ht ho1 hlen hfx hsh hk
      go_wp2_with fail
      go_region
      go_wp2_with fail
      go_region
      go_wp2_with fail
      go_ret
      obtain ⟨hX1,ho1,ht,hk⟩:=unhide HX1
      have e1:s.extract p' k=⟨(t.take m).toArray⟩:=ba_eq _ _ (by rw [Lib.extract_data,ht,← hk]; congr 1; omega)
      rw [Int.toNat_natCast]
      refine ⟨ret_str e1,(xp_last hX1 ho1 rfl (drews _) hk1 ?_).1⟩
      rw [← ht,List.drop_drop,hk]
  · have hne:((rdN z (s.data.toList.drop p)).2.2 != 0)=true:=by simpa using hx
    have hne2:((rdN z (s.data.toList.drop p)).2.2 == 0)=false:=by simpa using hx
    rw [rdT_err hx]
    have hnil:=rdN_errs z (s.data.toList.drop p) hx
    generalize rdN z (s.data.toList.drop p)=N at *
    obtain ⟨n,t,y⟩:=N
    simp only at hx hfx hcall hne hne2 hnil ⊢
    subst hnil
    have HC:=hide hcall
    clear hcall
    have HY:=hide hx
    clear hx
    go_enter Tryz.func61,Tryz.ntmps61
    go_wp2_with fail
    refine (unhide HC).mono ?_
    rintro e w1 ⟨rfl,p',hX1,hpl,ho1⟩
    have HX1:=hide (And.intro hX1 ho1)
    obtain ⟨c0,c1,c2,f0,f1,f2,hl⟩:=hX1
    clear hpl ho1
    go_wp2_with fail
    go_region
    go_wp2_with fail
    go_ret
    exact ⟨rfl,p',(unhide HX1).1.drew,fun e=>absurd e (unhide HY),(unhide HX1).2.trans (Only.drew (fun _=>False) _) (fun _ _ h=>h.elim)⟩
theorem cat_eqU (a:List UInt8) (s:ByteArray):(⟨a.toArray⟩:ByteArray)++s=⟨(a++s.data.toList).toArray⟩:=by
  obtain ⟨⟨l⟩⟩:=s
  apply ByteArray.ext
  simp
theorem refText_any (w:World) (s:ByteArray) (hs:s.size+30≤158329674399744) :
    Calls Tryz.prog 92 #[.string s] w fun e w'=>e=.returned (.string ⟨(sev s.size++s.data.toList).toArray⟩)∧Only (fun _=>False) w w':=by
  go_enter Tryz.func92,Tryz.ntmps92
  go_wp2_with fail
  refine (refNum_one w (s.size:Int) (by omega)).mono ?_
  rintro e w1 ⟨rfl,ho1⟩
  rw [Int.toNat_natCast]
  have hsl:(sev s.size).length≤10:=sevF_len 9 s.size
  go_wp2_with fail
  go_ret
  exact ⟨ret_str (cat_eqU _ _),ho1⟩
theorem str_catN (a b:List UInt8):str a++str b=str (a++b):=cat_eqU a ⟨b.toArray⟩
theorem rnum_two (W:World) (g:Nat) (p q:Int) (hg:g < W.heap.size) (h0:W.cell? ⟨g,0,none⟩=some (.int .i64 p)) (h1:W.cell? ⟨g,1,none⟩=some (.int .i64 q)) (hp:p < 9223372036854775808) (hq:q < 9223372036854775808) :
    Calls Tryz.prog 93 #[.slice (some ⟨g,0,none⟩) 2 2] W fun e w'=>e=.returned (.string (str (nums [p,q])))∧Only (fun _=>False) W w' :=
  refNum_any W [p,q] g 0 2 (fun k hk=>by
    match k,hk with
    | 0,_=>simpa using h0
    | 1,_=>simpa using h1) (fun k hk=>by
    match k,hk with
    | 0,_=>simpa using hp
    | 1,_=>simpa using hq) hg (by simp)
theorem rnum_one (W:World) (g:Nat) (p:Int) (hg:g < W.heap.size) (h0:W.cell? ⟨g,0,none⟩=some (.int .i64 p)) (hp:p < 9223372036854775808) :
    Calls Tryz.prog 93 #[.slice (some ⟨g,0,none⟩) 1 1] W fun e w'=>e=.returned (.string (str (nums [p])))∧Only (fun _=>False) W w' :=
  refNum_any W [p] g 0 1 (fun k hk=>by
    match k,hk with
    | 0,_=>simpa using h0) (fun k hk=>by
    match k,hk with
    | 0,_=>simpa using hp) hg (by simp)
set_option maxHeartbeats 1600000 in
theorem fraw_any (e:En) (w:World) (hf:e.few):Calls Tryz.prog 53 #[e.agg] w fun x w'=>x=.returned (.string e.enc)∧Only (fun _=>False) w w':=by
  have HV:=hide (Ev.new w e)
  have HO:=hide (onlyA w (.cells #[.string e.key,.int .i64 e.page,.int .i64 e.slot] 41))
  have HT:Hid (∀ W,Calls Tryz.prog 92 #[.string e.key] W fun x w'=>x=.returned (.string (str (txL e.key)))∧Only (fun _=>False) W w'):=fun W=>refText_any W e.key (by have:=hf.1; omega)
  have HN:Hid (∀ (W:World) (g:Nat),g < W.heap.size→W.cell? ⟨g,0,none⟩=some (.int .i64 e.page)→W.cell? ⟨g,1,none⟩=some (.int .i64 e.slot)→Calls Tryz.prog 93 #[.slice (some ⟨g,0,none⟩) 2 2] W fun x w'=>x=.returned (.string (str (nums [e.page,e.slot])))∧Only (fun _=>False) W w'):=fun W g h1 h2 h3=>rnum_two W g e.page e.slot h1 h2 h3 (by have:=hf.2; omega) (by have:=hf.2; omega)
  have hC:str (txL e.key)++str (nums [e.page,e.slot])=e.enc:=by
    rw [str_catN,nums_two]
    rfl
  have s1:(str (txL e.key)).size≤100:=by rw [str_size]; have:=txL_len e.key (by have:=hf.1; omega); have:=hf.1; omega
  have s2:(str (nums [e.page,e.slot])).size≤100:=by rw [str_size]; have:=nums_len [e.page,e.slot]; simp only [List.length_cons,List.length_nil] at this; omega
  obtain ⟨Y1,hY1⟩:=exq (str (txL e.key))
  obtain ⟨Y2,hY2⟩:=exq (str (nums [e.page,e.slot]))
  obtain ⟨E,hE⟩:=exq (e.enc)
  rw [hY1] at HT hC s1
  rw [hY2] at HN hC s2
  rw [hE] at hC ⊢
  have yC:Y1.size+Y2.size≤9223372036854775807:=by omega
  clear hY1 hY2 hE hf s1 s2
  unfold En.agg
  go_enter Tryz.func53,Tryz.ntmps53
  go_upto_region 1 with fail
  obtain ⟨W0,hW0⟩:=exq (w.alloc (.cells #[.string e.key,.int .i64 e.page,.int .i64 e.slot] 41))
  rw [hW0] at HV HO ⊢
  clear hW0
  -- {r1
  refine wp_region_noPanic ?_
  refine wp_region_held_drew (S:=fun W=>Only (fun _=>False) W0 W) (by kernel_rfl) (Only.drew _ _) (fun hHeld=>?_)
  refine tkP 0 (.pointer (some ⟨w.heap.size,0,none⟩)) rfl ?_
  refine tkP 3 (.pointer (some ⟨w.heap.size,1,none⟩)) rfl ?_
  refine tkP 5 (.pointer (some ⟨w.heap.size,2,none⟩)) rfl ?_
  refine tkQ 1 (.string e.key) rfl (yieldsIf_load_cell (by rfl) 9 _ rfl _ rfl (fun W hW=>(HV.out.more hW).c0) (fun W hc=>ld_string hc)) ?_
  refine tkQ 4 (.int .i64 e.page) rfl (yieldsIf_load_cell (by rfl) 3 _ rfl _ rfl (fun W hW=>(HV.out.more hW).c1) (fun W hc=>ld_int hc)) ?_
  refine tkQ 6 (.int .i64 e.slot) rfl (yieldsIf_load_cell (by rfl) 3 _ rfl _ rfl (fun W hW=>(HV.out.more hW).c2) (fun W hc=>ld_int hc)) ?_
  refine wpAnyH_ready (rs:=[2,7]) (by kernel_rfl) (by simp) ?_
  refine arC rfl (fun K hK=>?_) (arC rfl (fun K hK=>?_) (AllReadyH.nil))
  · go_simp
    refine (HT.out _).mono ?_
    rintro x x1 ⟨rfl,hx1⟩
    have HX1:=hide (o2 (Only.drew _ W0) hx1)
    clear hx1
    refine hK.out _ _ (HX1.out) (fun hHeld=>?_)
    clear hK K
    try simp only [Act.put,lsA,lsB,lsC]
    refine rd1 7 rfl (fun K hK=>?_)
    go_simp
    refine hK.out _ _ (o2 HX1.out (onlyA _ _)) (fun hHeld=>?_)
    clear hK K
    try simp only [Act.put,lsA,lsB,lsC]
    refine rd1 8 rfl (fun K hK=>?_)
    go_simp
    refine (HN.out _ x1.heap.size (by simp) (by simp) (by simp)).mono ?_
    rintro x x2 ⟨rfl,hx2⟩
    have HX2:=hide (o2 (o2 HX1.out (onlyA _ _)) hx2)
    clear hx2
    refine hK.out _ _ (HX2.out) (fun hHeld=>?_)
    clear hK K
    try simp only [Act.put,lsA,lsB,lsC]
    refine tkP 9 (.string E) rfl ?_
    refine tkP 10 (.string E) rfl ?_
    refine dnN ?_
    go_wp2_with fail
    go_ret
    exact ⟨rfl,o2 HO.out HX2.out⟩
  · go_simp
    refine hK.out _ _ (o2 (onlyA _ _) (Only.drew _ _)) (fun hHeld=>?_)
    clear hK K
    try simp only [Act.put,lsA,lsB,lsC]
    refine rd1 2 rfl (fun K hK=>?_)
    go_simp
    refine (HT.out _).mono ?_
    rintro x x1 ⟨rfl,hx1⟩
    have HCG:Hid (W0.heap.size < x1.heap.size∧x1.cell? ⟨W0.heap.size,0,none⟩=some (.int .i64 e.page)∧x1.cell? ⟨W0.heap.size,1,none⟩=some (.int .i64 e.slot)):=⟨Nat.lt_of_lt_of_le (by simp) hx1.size,(hx1.cell (p:=⟨W0.heap.size,0,none⟩) (by simp) (fun h=>h)).trans (by simp),(hx1.cell (p:=⟨W0.heap.size,1,none⟩) (by simp) (fun h=>h)).trans (by simp)⟩
    have HX1:=hide (o2 (o2 (onlyA W0 _) (Only.drew _ _)) hx1)
    clear hx1
    refine hK.out _ _ (HX1.out) (fun hHeld=>?_)
    clear hK K
    try simp only [Act.put,lsA,lsB,lsC]
    refine rd1 8 rfl (fun K hK=>?_)
    go_simp
    refine (HN.out _ W0.heap.size HCG.out.1 HCG.out.2.1 HCG.out.2.2).mono ?_
    rintro x x2 ⟨rfl,hx2⟩
    have HX2:=hide (o2 HX1.out hx2)
    clear hx2
    refine hK.out _ _ (HX2.out) (fun hHeld=>?_)
    clear hK K
    try simp only [Act.put,lsA,lsB,lsC]
    refine tkP 9 (.string E) rfl ?_
    refine tkP 10 (.string E) rfl ?_
    refine dnN ?_
    go_wp2_with fail
    go_ret
    exact ⟨rfl,o2 HO.out HX2.out⟩
  -- r1}
theorem fencode_any (e:En) (w:World):Calls Tryz.prog 63 #[e.agg] w fun x w'=>x=.returned (outC e.ok e.enc)∧Only (fun _=>False) w w':=by
  have HC:Hid (∀ W,Calls Tryz.prog 55 #[e.agg] W fun x w'=>x=.returned (.bool e.ok)∧Only (fun _=>False) W w'):=fun W=>fentry_any e W
  have HE:Hid (e.ok=true→∀ W,Calls Tryz.prog 53 #[e.agg] W fun x w'=>x=.returned (.string e.enc)∧Only (fun _=>False) W w'):=fun h W=>fraw_any e W (En.few_ok h)
  have HO:=hide (onlyA w (.cells #[.string e.key,.int .i64 e.page,.int .i64 e.slot] 41))
  have HEb:=hide (Eb.new w e)
  obtain ⟨E,hE⟩:=exq (e.enc)
  obtain ⟨b,hb⟩:=exq (e.ok)
  rw [hE,hb]
  rw [hb] at HC
  rw [hE,hb] at HE
  clear hE hb
  obtain ⟨k,p,s⟩:=e
  unfold En.agg at HC HE ⊢
  simp only [] at HC HE HO HEb ⊢
  go_enter Tryz.func63,Tryz.ntmps63
  go_wp2_with fail
  refine (HC.out _).mono ?_
  rintro x w1 ⟨rfl,ho⟩
  have HO1:=hide (o2 HO.out ho)
  have HE1:=hide (HEb.out.more ho)
  clear ho HO HEb
  cases b with
  | false=>
    clear HE
    go_wp2_with fail
    go_ret2
    exact ⟨rfl,HO1.out⟩
  | true=>
    have HE2:=hide (HE.out rfl)
    clear HE
    have c0:=HE1.out.c0
    have c1:=HE1.out.c1
    have c2:=HE1.out.c2
    simp only [Nat.zero_add] at c0 c1 c2
    go_wp2_with fail
    refine (HE2.out _).mono ?_
    rintro x w2 ⟨rfl,ho⟩
    have HO2:=hide (o2 HO1.out ho)
    clear ho
    go_wp2_with fail
    go_ret2
    exact ⟨rfl,HO2.out⟩
set_option maxHeartbeats 1600000 in
theorem fsep_any (e:En) (c:Int) (w:World):Calls Tryz.prog 54 #[e.agg,.int .i64 c] w fun x w'=>x=.returned (outC (e.sp && okC c) (e.encS c))∧Only (fun _=>False) w w':=by
  have HC:Hid (∀ W,Calls Tryz.prog 55 #[.agg #[.string e.key,.int .i64 e.page,.int .i64 e.slot]] W fun x w'=>x=.returned (.bool e.ok)∧Only (fun _=>False) W w'):=fun W=>fentry_any e W
  have HD:Hid (∀ W,Calls Tryz.prog 52 #[.int .i64 c] W fun x w'=>x=.returned (.bool (okC c))∧w'=W):=fun W=>fchild_any c W
  have HE:Hid (e.sp=true→∀ W,Calls Tryz.prog 53 #[.agg #[.string e.key,.int .i64 e.page,.int .i64 e.slot]] W fun x w'=>x=.returned (.string e.enc)∧Only (fun _=>False) W w'):=fun h W=>fraw_any e W (En.few_sp h)
  have HNU:Hid (okC c=true→∀ W W':World,Only (fun _=>False) (W.alloc (.cells #[.int .i64 c] 3)) W'→Calls Tryz.prog 93 #[.slice (some ⟨W.heap.size,0,none⟩) 1 1] W' fun x w'=>x=.returned (.string (str (nums [c])))∧Only (fun _=>False) W' w'):=fun h W W' ho=>rnum_one W' W.heap.size c (Nat.lt_of_lt_of_le (by simp) ho.size) ((ho.cell (p:=⟨W.heap.size,0,none⟩) (by simp) (fun h=>h)).trans (by simp)) (by have:=(okC_iff.1 h).2; omega)
  have HCAT:Hid (e.sp=true→e.enc++str (nums [c])=e.encS c∧e.enc.size+(str (nums [c])).size≤9223372036854775807):=fun h=>by
    refine ⟨by unfold En.enc; rw [str_catN,nums_one]; rfl,?_⟩
    have h1:=lay_len (En.few_sp h).1
    have h2:=nums_len [c]
    simp only [List.length_cons,List.length_nil] at h2
    unfold En.enc
    rw [str_size,str_size]
    omega
  have hne:=neqE_run e noE
  have HSP:Hid (e.sp=(e.ok || decide (e=noE))):=by unfold Hid En.sp; rw [Bool.or_comm]
  have HV:=hide (Ev.new w e)
  have HO:=hide (onlyA w (.cells #[.string e.key,.int .i64 e.page,.int .i64 e.slot] 41))
  obtain ⟨R,hR⟩:=exq (outC (e.sp && okC c) (e.encS c))
  rw [hR]
  obtain ⟨b,hb⟩:=exq (e.ok)
  obtain ⟨v,hv⟩:=exq (decide (e=noE))
  obtain ⟨d,hd⟩:=exq (okC c)
  obtain ⟨E,hE⟩:=exq (e.enc)
  obtain ⟨ES,hES⟩:=exq (e.encS c)
  obtain ⟨NC,hNC⟩:=exq (str (nums [c]))
  rw [hb,hv] at HSP
  rw [HSP.out] at HE HCAT hR
  rw [hb] at HC
  rw [hd] at HD HNU hR
  rw [hv] at hne
  rw [hE] at HE HCAT
  rw [hES] at HCAT hR
  rw [hNC] at HNU HCAT
  have HR:=hide hR
  unfold noE at hne
  simp only [] at hne
  clear hb hv hd hE hES hNC hR HSP
  unfold En.agg
  go_enter Tryz.func54,Tryz.ntmps54
  go_upto_region 1 with fail
  obtain ⟨W0,hW0⟩:=exq (w.alloc (.cells #[.string e.key,.int .i64 e.page,.int .i64 e.slot] 41))
  rw [hW0] at HV HO ⊢
  clear hW0
  obtain ⟨c0,c1,c2,_⟩:=HV.out
  go_wp2_with fail
  refine (HC.out _).mono ?_
  rintro x w1 ⟨rfl,ho⟩
  have HO1:=hide (o2 HO.out ho)
  have HV1:=hide (HV.out.more ho)
  clear ho HO HV c0 c1 c2
  obtain ⟨c0,c1,c2,_⟩:=HV1.out
  have HRF:Hid (b=false→v=false→R=outC false ES):=by intro h1 h2; rw [← HR.out,h1,h2]; rfl
  have HRD:Hid ((b || v)=true→R=outC d ES):=by intro h1; rw [← HR.out,h1,Bool.true_and]
  by_cases hbv:(b || v)=true
  · have HE2:=hide (HE.out hbv)
    have HCA:=hide (HCAT.out hbv)
    have HRD2:=hide (HRD.out hbv)
    have HBV:Hid ((b=true)∨(b=false∧v=true)):=by cases b <;> cases v <;> simp_all [Hid]
    clear hbv HE HCAT HRF HRD HR
    rcases HBV.out with rfl | ⟨rfl,rfl⟩
    · clear HBV
      go_wp2_with fail
      refine (HD.out _).mono ?_
      rintro x w2 ⟨rfl,h⟩
      obtain rfl:=h.symm
      cases d with
      | false=>
        clear HNU
        go_wp2_with fail
        go_ret2
        exact ⟨by rw [HRD2.out]; rfl,HO1.out⟩
      | true=>
        have HNU2:=hide (HNU.out rfl)
        have hca:=HCA.out.1
        have hcs:=HCA.out.2
        clear HNU
        go_wp2_with fail
        refine (HE2.out _).mono ?_
        rintro x w2 ⟨rfl,ho⟩
        have HO2:=hide (o2 HO1.out ho)
        clear ho
        go_wp2_with fail
        refine (HNU2.out _ _ (Only.refl _ _)).mono ?_
        rintro x w3 ⟨rfl,ho⟩
        have HO3:=hide (o2 (o2 HO2.out (onlyA _ _)) ho)
        clear ho
        go_wp2_with fail
        go_ret2
        exact ⟨by rw [HRD2.out]; rfl,HO3.out⟩
    · clear HBV
      go_wp2_with fail
      refine (HD.out _).mono ?_
      rintro x w2 ⟨rfl,h⟩
      obtain rfl:=h.symm
      cases d with
      | false=>
        clear HNU
        go_wp2_with fail
        go_ret2
        exact ⟨by rw [HRD2.out]; rfl,HO1.out⟩
      | true=>
        have HNU2:=hide (HNU.out rfl)
        have hca:=HCA.out.1
        have hcs:=HCA.out.2
        clear HNU
        go_wp2_with fail
        refine (HE2.out _).mono ?_
        rintro x w2 ⟨rfl,ho⟩
        have HO2:=hide (o2 HO1.out ho)
        clear ho
        go_wp2_with fail
        refine (HNU2.out _ _ (Only.refl _ _)).mono ?_
        rintro x w3 ⟨rfl,ho⟩
        have HO3:=hide (o2 (o2 HO2.out (onlyA _ _)) ho)
        clear ho
        go_wp2_with fail
        go_ret2
        exact ⟨by rw [HRD2.out]; rfl,HO3.out⟩
  · obtain ⟨rfl,rfl⟩:b=false∧v=false:=by cases b <;> cases v <;> simp_all
    have HR2:=hide (HRF.out rfl rfl)
    clear hbv HE HCAT HRF HRD HR HNU
    go_wp2_with fail
    go_ret2
    exact ⟨by rw [HR2.out]; rfl,HO1.out⟩
end Go.Proofs.YtipkeeobmihogaaGreat
