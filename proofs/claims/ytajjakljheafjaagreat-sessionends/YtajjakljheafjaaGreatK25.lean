/- Parts. -/
import Derived.Test.YtajjakljheafjaaGreatK24
set_option maxRecDepth 100000
namespace Go.Proofs.YtajjakljheafjaaGreat
open Go.RowKit
set_option maxHeartbeats 1600000 in
theorem readInner_bad (w:World) (a k v r:Int) (h:ByteArray) (ao:Option Addr) (n cp:Nat) (hk:¬ k=3) :
    Calls Tryz.prog 98 #[.agg #[.int .i64 a,.int .i64 k,.int .i64 v,.int .i64 r,.string h,.slice ao n cp]] w fun e w'=>e=.returned (.tuple #[.agg #[.slice none 0 0,.slice none 0 0,.string ⟨#[]⟩,.int .i64 0,.int .i64 0],.bool false])∧Only (fun _=>False) w w':=by
  have HX:=hide (lf_new w (.int .i64 a) (.int .i64 k) (.int .i64 v) (.int .i64 r) (.string h) (.slice ao n cp))
  have HRH:Hid (∀ W,Calls Tryz.prog 124 #[.agg #[.int .i64 a,.int .i64 k,.int .i64 v,.int .i64 r,.string h,.slice ao n cp]] W fun e w'=>e=.returned (.tuple #[.agg #[.string ⟨#[]⟩,.int .i64 0,.int .i64 0],.bool false])∧Only (fun _=>False) W w'):=fun W=>readHead_bad W a k v r h ao n cp hk
  clear hk
  go_enter Tryz.func98,Tryz.ntmps98
  go_upto_region 1 with fail
  obtain ⟨W0,hW0⟩:=exq ((w.alloc (.cells #[.int .i64 a,.int .i64 k,.int .i64 v,.int .i64 r,.string h,.slice ao n cp] 37)).alloc (.cells #[.slice none 0 0,.slice none 0 0,.string ⟨#[]⟩,.int .i64 0,.int .i64 0] 164))
  rw [hW0] at HX ⊢
  clear hW0
  obtain ⟨p0,p1,p2,p3,p4,p5,_⟩:=HX.out.1
  go_wp2_with fail
  refine (HRH.out _).mono ?_
  rintro e w1 ⟨rfl,ho⟩
  have HC1:=hide (HX.out.2.1.more ho)
  have HO1:=hide (o2 HX.out.2.2 ho)
  clear ho p0 p1 p2 p3 p4 p5 HX HRH
  go_upto_region 2 with fail
  have HA:=hide (onlyA w1 (.cells #[.string ⟨#[]⟩,.int .i64 0,.int .i64 0] 89))
  obtain ⟨w2,hw2⟩:=exq (w1.alloc (.cells #[.string ⟨#[]⟩,.int .i64 0,.int .i64 0] 89))
  rw [hw2] at HA ⊢
  clear hw2
  have HC2:=hide (HC1.out.more HA.out)
  have HO2:=hide (o2 HO1.out HA.out)
  clear HA HC1 HO1
  obtain ⟨r0,r1,r2,r3,r4,f0,f1,f2,f3,f4,_⟩:=HC2.out
  go_wp2_with fail
  refine bodyPost_ret (results_cv rfl rfl (HC2.out.all _ _ noE)) rfl ?_
  exact ⟨rfl,HO2.out.trans (Only.five w2 (w.heap.size+1) _ _ _ _ _) (fun i hi e=>by omega)⟩
theorem laid_at (e:En) (W:World) (g:Nat) (c:Int) (hf:e.few) (hc:c < 9223372036854775808) (hg:g < W.heap.size) (hx:W.cell? ⟨g,0,none⟩=some (.int .i64 c)):Calls Tryz.prog 88 #[e.agg,.slice (some ⟨g,0,none⟩) 1 1] W fun x w'=>x=.returned (.string (e.encS c))∧Only (fun _=>False) W w':=by
  have h:=laid_any e W (some ⟨g,0,none⟩) 1 [c] hf (.inr ⟨g,0,rfl,hg,fun k hk=>by
    have:k=0:=by simpa using hk
    subst this
    exact hx⟩) (by simp) (fun k hk=>by
    have:k=0:=by simpa using hk
    subst this
    simpa using hc)
  rw [nums_one] at h
  exact h
theorem strsN (w:World) (k v:ByteArray) (hk:k.size≤55) (hv:v.size≤55):Strs (w.alloc (.cells #[.string k,.string v] 9)) w.heap.size (some ⟨w.heap.size,0,none⟩) [k,v]:=by
  refine ⟨fun _=>⟨0,rfl,fun j hj=>?_⟩,fun _=>by simp,by simp,fun s hs=>?_⟩
  · match j,hj with
    | 0,_=>simp
    | 1,_=>simp
  · simp only [List.mem_cons,List.not_mem_nil,or_false] at hs
    rcases hs with rfl | rfl <;> omega
theorem rt_new (w:World) (e:En):Ev ((w.alloc (.cells #[.string e.key,.int .i64 e.page,.int .i64 e.slot] 89)).alloc (.cells #[.int .i64 0,.int .i64 0,.int .i64 0,.int .i64 0,.string ⟨#[]⟩,.slice none 0 0] 37)) w.heap.size e∧Pag ((w.alloc (.cells #[.string e.key,.int .i64 e.page,.int .i64 e.slot] 89)).alloc (.cells #[.int .i64 0,.int .i64 0,.int .i64 0,.int .i64 0,.string ⟨#[]⟩,.slice none 0 0] 37)) (w.heap.size+1) (.int .i64 0) (.int .i64 0) (.int .i64 0) (.int .i64 0) (.string ⟨#[]⟩) (.slice none 0 0)∧Only (fun _=>False) w ((w.alloc (.cells #[.string e.key,.int .i64 e.page,.int .i64 e.slot] 89)).alloc (.cells #[.int .i64 0,.int .i64 0,.int .i64 0,.int .i64 0,.string ⟨#[]⟩,.slice none 0 0] 37)):=by
  refine ⟨(Ev.new w e).more (onlyA _ _),?_,o2 (onlyA _ _) (onlyA _ _)⟩
  have e1:=Pag.new (w.alloc (.cells #[.string e.key,.int .i64 e.page,.int .i64 e.slot] 89)) (.int .i64 0) (.int .i64 0) (.int .i64 0) (.int .i64 0) (.string ⟨#[]⟩) (.slice none 0 0)
  rw [World.size_alloc] at e1
  exact e1
theorem noE_encS_size (c:Int):(noE.encS c).size≤55:=by
  rw [← bl_len,bl_encS]
  exact layS_len c (by decide)
theorem encS_sizeR {e:En} (c:Int) (h:e.ok=true):(e.encS c).size≤55:=by
  rw [← bl_len,bl_encS]
  exact layS_len c (En.few_ok h).1
set_option maxHeartbeats 3200000 in
theorem root_ok (w:World) (v c d:Int) (e:En) (hv:1≤v∧v≤255) (hc:okC c=true) (hd:okC d=true) (he:e.ok=true) :
    Calls Tryz.prog 186 #[.int .i64 v,.int .i64 c,e.agg,.int .i64 d] w fun x w'=>Res w w' x ⟨0,3,v,0,⟨#[]⟩,[noE.encS c,e.encS d]⟩ 0:=by
  have HX:=hide (rt_new w e)
  have HIE:Hid (∀ W,Calls Tryz.prog 84 #[.agg #[.string e.key,.int .i64 e.page,.int .i64 e.slot]] W fun x w'=>x=.returned (.bool true)∧Only (fun _=>False) W w'):=fun W=>by
    have:=isEntry_any e W
    rw [he] at this
    exact this
  have HIC:Hid (∀ W,Calls Tryz.prog 146 #[.int .i64 c] W fun x w'=>x=.returned (.bool true)∧w'=W):=fun W=>by
    have:=isChild_any c W
    rwa [hc] at this
  have HID:Hid (∀ W,Calls Tryz.prog 146 #[.int .i64 d] W fun x w'=>x=.returned (.bool true)∧w'=W):=fun W=>by
    have:=isChild_any d W
    rwa [hd] at this
  have HLC:Hid (∀ (W:World) (g:Nat),g < W.heap.size→W.cell? ⟨g,0,none⟩=some (.int .i64 c)→Calls Tryz.prog 88 #[.agg #[.string ⟨#[]⟩,.int .i64 0,.int .i64 0],.slice (some ⟨g,0,none⟩) 1 1] W fun x w'=>x=.returned (.string (noE.encS c))∧Only (fun _=>False) W w'):=fun W g h1 h2=>laid_at noE W g c (En.few_sp (En.sp_iff.2 (.inl rfl))) (by have:=(okC_iff.1 hc).2; omega) h1 h2
  have HLD:Hid (∀ (W:World) (g:Nat),g < W.heap.size→W.cell? ⟨g,0,none⟩=some (.int .i64 d)→Calls Tryz.prog 88 #[.agg #[.string e.key,.int .i64 e.page,.int .i64 e.slot],.slice (some ⟨g,0,none⟩) 1 1] W fun x w'=>x=.returned (.string (e.encS d))∧Only (fun _=>False) W w'):=fun W g h1 h2=>laid_at e W g d (En.few_ok he) (by have:=(okC_iff.1 hd).2; omega) h1 h2
  obtain ⟨E1,hE1⟩:=exq (noE.encS c)
  obtain ⟨E2,hE2⟩:=exq (e.encS d)
  have HZ:Hid (E1.size≤55∧E2.size≤55):=by rw [← hE1,← hE2]; exact ⟨noE_encS_size c,encS_sizeR d he⟩
  rw [hE1] at HLC ⊢
  rw [hE2] at HLD ⊢
  have t1:¬ v < 1:=by omega
  have t2:¬ (255:Int) < v:=by omega
  clear hE1 hE2 hv hc hd he
  unfold En.agg
  go_enter Tryz.func186,Tryz.ntmps186
  go_upto_region 1 with fail
  obtain ⟨W0,hW0⟩:=exq ((w.alloc (.cells #[.string e.key,.int .i64 e.page,.int .i64 e.slot] 89)).alloc (.cells #[.int .i64 0,.int .i64 0,.int .i64 0,.int .i64 0,.string ⟨#[]⟩,.slice none 0 0] 37))
  rw [hW0] at HX ⊢
  clear hW0
  obtain ⟨d0,d1,d2,_⟩:=HX.out.1
  go_wp2_with fail
  refine (HIE.out _).mono ?_
  rintro x W1 ⟨rfl,ho⟩
  have HV1:=hide (HX.out.1.more ho)
  have HP1:=hide (HX.out.2.1.more ho)
  have HO1:=hide (o2 HX.out.2.2 ho)
  clear ho d0 d1 d2 HX HIE
  go_wp2_with fail
  refine (HIC.out _).mono ?_
  rintro x w2 ⟨rfl,h4⟩
  obtain rfl:=h4.symm
  go_wp2_with fail
  refine (HID.out _).mono ?_
  rintro x w3 ⟨rfl,h5⟩
  obtain rfl:=h5.symm
  go_upto_region 3 with fail
  clear t1 t2 HIC HID
  go_cut [10] (fun s wx=>∃ B,s=.slice (some ⟨B,0,none⟩) 2 2∧Hid (Strs wx B (some ⟨B,0,none⟩) [E1,E2])∧Hid (Only (fun _=>False) W1 wx∧W1.heap.size≤B))
  case first=>
    -- {r3
    refine wp_region_noPanic ?_
    refine wp_region_held_drew (S:=fun W=>Only (fun _=>False) W1 W) (by kernel_rfl) (Only.drew _ _) (fun hHeld=>?_)
    refine tkP 0 (.agg #[.string ⟨#[]⟩,.int .i64 0,.int .i64 0]) rfl ?_
    refine tkP 1 (.int .i64 c) rfl ?_
    refine tkQ 4 (.agg #[.string e.key,.int .i64 e.page,.int .i64 e.slot]) rfl (yieldsIf_load_ev (by rfl) _ rfl rfl (fun W hW=>HV1.out.more hW)) ?_
    refine tkP 5 (.int .i64 d) rfl ?_
    refine wpAnyH_ready (rs:=[2,6]) (by kernel_rfl) (by simp) ?_
    refine arC rfl (fun K hK=>?_) (arC rfl (fun K hK=>?_) (AllReadyH.nil))
    · go_simp
      refine hK.out _ _ (o2 (onlyA _ _) (Only.drew _ _)) (fun hHeld=>?_)
      clear hK K
      try simp only [Act.put,lsA,lsB,lsC]
      refine wpAnyH_ready (rs:=[3,6]) (by kernel_rfl) (by simp) ?_
      refine arC rfl (fun K hK=>?_) (arC rfl (fun K hK=>?_) (AllReadyH.nil))
      · go_simp
        refine (HLC.out _ (W1.heap.size) (by simp <;> omega) (by simp)).mono ?_
        rintro x x1 ⟨rfl,hx1⟩
        have HX1:=hide (o2 (o2 (onlyA W1 _) (Only.drew _ _)) hx1)
        clear hx1
        refine hK.out _ _ (HX1.out) (fun hHeld=>?_)
        clear hK K
        try simp only [Act.put,lsA,lsB,lsC]
        refine rd1 6 rfl (fun K hK=>?_)
        go_simp
        refine hK.out _ _ (o2 HX1.out (onlyA _ _)) (fun hHeld=>?_)
        clear hK K
        try simp only [Act.put,lsA,lsB,lsC]
        refine rd1 7 rfl (fun K hK=>?_)
        go_simp
        refine (HLD.out _ x1.heap.size (by simp) (by simp)).mono ?_
        rintro x x2 ⟨rfl,hx2⟩
        have HX2:=hide (o2 (o2 HX1.out (onlyA _ _)) hx2)
        clear hx2
        refine hK.out _ _ (HX2.out) (fun hHeld=>?_)
        clear hK K
        try simp only [Act.put,lsA,lsB,lsC]
        refine rd1 8 rfl (fun K hK=>?_)
        go_simp
        have HS9:=hide (strsN x2 E1 E2 HZ.out.1 HZ.out.2)
        have HX9:=hide (o2 HX2.out (onlyA x2 (.cells #[.string E1,.string E2] 9)))
        refine hK.out _ _ (HX9.out) (fun hHeld=>?_)
        clear hK K
        try simp only [Act.put,lsA,lsB,lsC]
        refine tkP 9 (.slice (some ⟨x2.heap.size,0,none⟩) 2 2) rfl ?_
        refine dnN ?_
        go_wp2_with fail
        go_meet
        exact ⟨_,rfl,HS9,hide ⟨HX9.out,HX2.out.size⟩⟩
      · go_simp
        refine hK.out _ _ (o2 (o2 (onlyA _ _) (onlyA _ _)) (Only.drew _ _)) (fun hHeld=>?_)
        clear hK K
        try simp only [Act.put,lsA,lsB,lsC]
        refine rd1 3 rfl (fun K hK=>?_)
        go_simp
        refine (HLC.out _ (W1.heap.size) (by simp <;> omega) (by simp)).mono ?_
        rintro x x1 ⟨rfl,hx1⟩
        have HX1:=hide (o2 (o2 (o2 (onlyA W1 _) (onlyA _ _)) (Only.drew _ _)) hx1)
        have HC2:Hid (W1.heap.size+1 < x1.heap.size∧x1.cell? ⟨W1.heap.size+1,0,none⟩=some (.int .i64 d)):=⟨Nat.lt_of_lt_of_le (by simp <;> omega) hx1.size,(hx1.cell (p:=⟨W1.heap.size+1,0,none⟩) (by simp <;> omega) (fun h=>h)).trans (by simp)⟩
        clear hx1
        refine hK.out _ _ (HX1.out) (fun hHeld=>?_)
        clear hK K
        try simp only [Act.put,lsA,lsB,lsC]
        refine rd1 7 rfl (fun K hK=>?_)
        go_simp
        refine (HLD.out _ (W1.heap.size+1) HC2.out.1 HC2.out.2).mono ?_
        rintro x x2 ⟨rfl,hx2⟩
        have HX2:=hide (o2 HX1.out hx2)
        clear hx2
        refine hK.out _ _ (HX2.out) (fun hHeld=>?_)
        clear hK K
        try simp only [Act.put,lsA,lsB,lsC]
        refine rd1 8 rfl (fun K hK=>?_)
        go_simp
        have HS9:=hide (strsN x2 E1 E2 HZ.out.1 HZ.out.2)
        have HX9:=hide (o2 HX2.out (onlyA x2 (.cells #[.string E1,.string E2] 9)))
        refine hK.out _ _ (HX9.out) (fun hHeld=>?_)
        clear hK K
        try simp only [Act.put,lsA,lsB,lsC]
        refine tkP 9 (.slice (some ⟨x2.heap.size,0,none⟩) 2 2) rfl ?_
        refine dnN ?_
        go_wp2_with fail
        go_meet
        exact ⟨_,rfl,HS9,hide ⟨HX9.out,HX2.out.size⟩⟩
    · go_simp
      refine hK.out _ _ (o2 (onlyA _ _) (Only.drew _ _)) (fun hHeld=>?_)
      clear hK K
      try simp only [Act.put,lsA,lsB,lsC]
      refine rd1 2 rfl (fun K hK=>?_)
      go_simp
      refine hK.out _ _ (o2 (o2 (onlyA _ _) (onlyA _ _)) (Only.drew _ _)) (fun hHeld=>?_)
      clear hK K
      try simp only [Act.put,lsA,lsB,lsC]
      refine rd1 3 rfl (fun K hK=>?_)
      go_simp
      refine (HLC.out _ (W1.heap.size+1) (by simp <;> omega) (by simp)).mono ?_
      rintro x x1 ⟨rfl,hx1⟩
      have HX1:=hide (o2 (o2 (o2 (onlyA W1 _) (onlyA _ _)) (Only.drew _ _)) hx1)
      have HC2:Hid (W1.heap.size < x1.heap.size∧x1.cell? ⟨W1.heap.size,0,none⟩=some (.int .i64 d)):=⟨Nat.lt_of_lt_of_le (by simp <;> omega) hx1.size,(hx1.cell (p:=⟨W1.heap.size,0,none⟩) (by simp <;> omega) (fun h=>h)).trans (by simp)⟩
      clear hx1
      refine hK.out _ _ (HX1.out) (fun hHeld=>?_)
      clear hK K
      try simp only [Act.put,lsA,lsB,lsC]
      refine rd1 7 rfl (fun K hK=>?_)
      go_simp
      refine (HLD.out _ (W1.heap.size) HC2.out.1 HC2.out.2).mono ?_
      rintro x x2 ⟨rfl,hx2⟩
      have HX2:=hide (o2 HX1.out hx2)
      clear hx2
      refine hK.out _ _ (HX2.out) (fun hHeld=>?_)
      clear hK K
      try simp only [Act.put,lsA,lsB,lsC]
      refine rd1 8 rfl (fun K hK=>?_)
      go_simp
      have HS9:=hide (strsN x2 E1 E2 HZ.out.1 HZ.out.2)
      have HX9:=hide (o2 HX2.out (onlyA x2 (.cells #[.string E1,.string E2] 9)))
      refine hK.out _ _ (HX9.out) (fun hHeld=>?_)
      clear hK K
      try simp only [Act.put,lsA,lsB,lsC]
      refine tkP 9 (.slice (some ⟨x2.heap.size,0,none⟩) 2 2) rfl ?_
      refine dnN ?_
      go_wp2_with fail
      go_meet
      exact ⟨_,rfl,HS9,hide ⟨HX9.out,HX2.out.size⟩⟩
    -- r3}
  case rest=>
    obtain ⟨B,rfl,HS,HO⟩:=hcut
    have HP2:=hide (HP1.out.more HO.out.1)
    obtain ⟨q0,q1,q2,q3,q4,q5,g0,g1,g2,g3,g4,g5,ql⟩:=HP2.out
    go_wp2_with fail
    refine bodyPost_ret (results_page rfl rfl (Pag.six HP2.out _ _ _ _ _ _)) rfl ?_
    have h6:=Only.six wc (w.heap.size+1) (.int .i64 0) (.int .i64 3) (.int .i64 v) (.int .i64 0) (.string ⟨#[]⟩) (.slice (some ⟨B,0,none⟩) 2 2)
    have hz:=HP1.out.lt
    have hb:=HO.out.2
    exact ⟨B,some ⟨B,0,none⟩,2,rfl,HS.out.kept h6 (fun _=>by omega),⟨(fun h=>nomatch h),by simp,by unfold maxLen; omega⟩,(o2 HO1.out HO.out.1).trans h6 (fun i hi e=>by omega),fun _=>by have:=HO1.out.size; omega⟩
set_option maxHeartbeats 1600000 in
theorem sizeWith_a (w:World) (a k v r:Int) (h:ByteArray) (B cp o:Nat) (l:List ByteArray) (i m:Nat) (s:ByteArray) (hS:Strs w B (some ⟨B,o,none⟩) l) (hF:Fit (some ⟨B,o,none⟩) l.length cp) (hi:i≤l.length) (hm:m=min (i+1) l.length) (hc:¬ cp=m) (hh:h.size≤140737488355328) (hs:s.size≤140737488355328) :
    Calls Tryz.prog 107 #[.agg #[.int .i64 a,.int .i64 k,.int .i64 v,.int .i64 r,.string h,.slice (some ⟨B,o,none⟩) l.length cp],.int .i64 (i:Int),.string s] w fun e w'=>e=.returned (.tuple #[.int .i64 (szV h (putL l i s)),.int .i64 (szE h (putL l i s))])∧Only (fun _=>False) w w':=by
  have hcp:=hF.le
  have hbig:=hF.big
  unfold maxLen at hbig
  have HP:=hide (Pag.new w (.int .i64 a) (.int .i64 k) (.int .i64 v) (.int .i64 r) (.string h) (.slice (some ⟨B,o,none⟩) l.length cp))
  have HO0:=hide (onlyA w (.cells #[.int .i64 a,.int .i64 k,.int .i64 v,.int .i64 r,.string h,.slice (some ⟨B,o,none⟩) l.length cp] 37))
  have hsz:(w.alloc (.cells #[.int .i64 a,.int .i64 k,.int .i64 v,.int .i64 r,.string h,.slice (some ⟨B,o,none⟩) l.length cp] 37)).heap.size=w.heap.size+1:=by simp
  have HCAT:Hid (∀ W,W=((w.alloc (.cells #[.int .i64 a,.int .i64 k,.int .i64 v,.int .i64 r,.string h,.slice (some ⟨B,o,none⟩) l.length cp] 37)).alloc (.cells #[.string s] 9)).alloc (.cells #[.slice (some ⟨B,o,none⟩) i cp,.slice (some ⟨w.heap.size+1,0,none⟩) 1 1,.slice (some ⟨B,o+m,none⟩) (l.length - m) (cp - m)] 35) →
      Calls Tryz.prog 129 #[.slice (some ⟨w.heap.size+1+1,0,none⟩) 3 3] W fun e w'=>∃ vx,e=.returned vx∧Ls w' W.heap.size vx (putL l i s)∧Only (fun _=>False) (w.alloc (.cells #[.int .i64 a,.int .i64 k,.int .i64 v,.int .i64 r,.string h,.slice (some ⟨B,o,none⟩) l.length cp] 37)) w'):=fun W hW=>by
    have key:=with_cat (w.alloc (.cells #[.int .i64 a,.int .i64 k,.int .i64 v,.int .i64 r,.string h,.slice (some ⟨B,o,none⟩) l.length cp] 37)) B cp (some ⟨B,o,none⟩) (some ⟨B,o+m,none⟩) l i m s (hS.more HO0.out) hF hs hi hm (fun b o2 e hk=>by cases e; rfl) (fun e=>by cases e) W
    rw [hsz] at key
    exact key hW
  have HSS:Hid (∀ x ∈ putL l i s,x.size≤140737488355328):=fun x hx=>by
    rcases putL_mem hx with rfl | hx
    · exact hs
    · exact hS.size x hx
  obtain ⟨L,hL⟩:=exq (putL l i s)
  rw [hL] at HCAT HSS ⊢
  have hlen:=hS.len
  obtain ⟨n1,hn1⟩:∃ n1:Nat,i+1=n1:=⟨_,rfl⟩
  have hi0:(0:Int)≤(i:Int):=by omega
  have hi1:(i:Int)≤(l.length:Int):=by omega
  have hi2:(0:Int)≤(m:Int):=by omega
  have hi3:(m:Int)≤(l.length:Int):=by omega
  have hi4:(m:Int)≤(cp:Int):=by omega
  have hi5:(i:Int)+1=(n1:Int):=by omega
  have hi8:IntKind.i64.wrap (n1:Int)=(n1:Int):=wraps_i64 _ (by omega) (by omega)
  have hi9:min (n1:Int) (l.length:Int)=(m:Int):=by omega
  have hi6:(i:Int)≤(cp:Int):=by omega
  have hi7:(l.length:Int)≤(cp:Int):=by omega
  clear hm hn1
  have HH:=hide hh
  clear hS hF hL hsz hh
  go_enter Tryz.func107,Tryz.ntmps107
  go_wp2_with fail
  refine (HCAT.out _ rfl).mono ?_
  rintro e w1 ⟨v1,rfl,hl1,ho1⟩
  obtain ⟨ao5,cp5,hWL⟩:=WithL.of h HH.out hl1 HSS.out
  obtain rfl:=hWL.val
  have HWL:=hide hWL
  obtain ⟨p0,p1,p2,p3,p4,p5,_⟩:=HP.out.more ho1
  have HO1:=hide (o2 HO0.out ho1)
  have HPN:=hide (Pag.new w1 (.int .i64 0) (.int .i64 2) (.int .i64 0) (.int .i64 0) (.string h) (.slice ao5 L.length cp5))
  have HON:=hide (onlyA w1 (.cells #[.int .i64 0,.int .i64 2,.int .i64 0,.int .i64 0,.string h,.slice ao5 L.length cp5] 37))
  clear hl1 ho1 hWL
  obtain ⟨n5,hn5⟩:=exq (L.length)
  rw [hn5] at HPN HON ⊢
  have HN5:=hide hn5
  clear hn5
  go_wp2_with fail
  rw [← HN5.out] at HPN HON ⊢
  refine (HWL.out.enc _ HON.out).mono ?_
  rw [HN5.out] at HPN HON ⊢
  rintro e w2 ⟨⟨x,rfl⟩,ho2⟩
  obtain ⟨q0,q1,q2,q3,q4,q5,_⟩:=HPN.out.more ho2
  have HO2:=hide (o2 HON.out ho2)
  clear ho2 p0 p1 p2 p3 p4 p5
  cases hf:fitL h L
  · have HF2:=hide hf
    clear hf
    go_wp2_with fail
    go_ret2
    refine ⟨?_,o2 HO1.out HO2.out⟩
    unfold szV szE
    rw [HF2.out]
    rfl
  · have HF2:=hide hf
    clear hf
    go_wp2_with fail
    rw [← HN5.out]
    refine (HWL.out.size HF2.out _ HO2.out).mono ?_
    rw [HN5.out]
    rintro e w3 ⟨rfl,ho3⟩
    have HO3:=hide (o2 (o2 HO1.out HO2.out) ho3)
    clear ho3
    go_wp2_with fail
    go_ret2
    refine ⟨?_,HO3.out⟩
    unfold szV szE
    rw [HF2.out]
    rfl
set_option maxHeartbeats 1600000 in
theorem sizeWith_b (w:World) (a k v r:Int) (h:ByteArray) (B cp:Nat) (p:Addr) (s:ByteArray) (hS:Strs w B (some p) []) (hF:Fit (some p) 0 cp) (hc:¬ cp=0) (hh:h.size≤140737488355328) (hs:s.size≤140737488355328) :
    Calls Tryz.prog 107 #[.agg #[.int .i64 a,.int .i64 k,.int .i64 v,.int .i64 r,.string h,.slice (some p) 0 cp],.int .i64 0,.string s] w fun e w'=>e=.returned (.tuple #[.int .i64 (szV h (putL [] 0 s)),.int .i64 (szE h (putL [] 0 s))])∧Only (fun _=>False) w w':=by
  have hcp:=hF.le
  have hbig:=hF.big
  unfold maxLen at hbig
  have HP:=hide (Pag.new w (.int .i64 a) (.int .i64 k) (.int .i64 v) (.int .i64 r) (.string h) (.slice (some p) 0 cp))
  have HO0:=hide (onlyA w (.cells #[.int .i64 a,.int .i64 k,.int .i64 v,.int .i64 r,.string h,.slice (some p) 0 cp] 37))
  have hsz:(w.alloc (.cells #[.int .i64 a,.int .i64 k,.int .i64 v,.int .i64 r,.string h,.slice (some p) 0 cp] 37)).heap.size=w.heap.size+1:=by simp
  have HCAT:Hid (∀ W,W=((w.alloc (.cells #[.int .i64 a,.int .i64 k,.int .i64 v,.int .i64 r,.string h,.slice (some p) 0 cp] 37)).alloc (.cells #[.string s] 9)).alloc (.cells #[.slice (some p) 0 cp,.slice (some ⟨w.heap.size+1,0,none⟩) 1 1,.slice (some p) 0 cp] 35) →
      Calls Tryz.prog 129 #[.slice (some ⟨w.heap.size+1+1,0,none⟩) 3 3] W fun e w'=>∃ vx,e=.returned vx∧Ls w' W.heap.size vx (putL [] 0 s)∧Only (fun _=>False) (w.alloc (.cells #[.int .i64 a,.int .i64 k,.int .i64 v,.int .i64 r,.string h,.slice (some p) 0 cp] 37)) w'):=fun W hW=>by
    have key:=with_cat (w.alloc (.cells #[.int .i64 a,.int .i64 k,.int .i64 v,.int .i64 r,.string h,.slice (some p) 0 cp] 37)) B cp (some p) (some p) [] 0 0 s (hS.more HO0.out) hF hs (Nat.le_refl _) rfl (fun b o2 e hk=>absurd hk (by simp)) (fun e=>e) W
    rw [hsz] at key
    exact key hW
  have HSS:Hid (∀ x ∈ putL [] 0 s,x.size≤140737488355328):=fun x hx=>by
    rcases putL_mem hx with rfl | hx
    · exact hs
    · exact hS.size x hx
  obtain ⟨L,hL⟩:=exq (putL [] 0 s)
  rw [hL] at HCAT HSS ⊢
  have hi9:min (1:Int) 0=0:=by decide
  have hp0:p.add 0=p:=by unfold Addr.add; simp
  have HH:=hide hh
  clear hS hF hL hsz hh
  go_enter Tryz.func107,Tryz.ntmps107
  go_wp2_with fail
  refine (HCAT.out _ rfl).mono ?_
  rintro e w1 ⟨v1,rfl,hl1,ho1⟩
  obtain ⟨ao5,cp5,hWL⟩:=WithL.of h HH.out hl1 HSS.out
  obtain rfl:=hWL.val
  have HWL:=hide hWL
  obtain ⟨p0,p1,p2,p3,p4,p5,_⟩:=HP.out.more ho1
  have HO1:=hide (o2 HO0.out ho1)
  have HPN:=hide (Pag.new w1 (.int .i64 0) (.int .i64 2) (.int .i64 0) (.int .i64 0) (.string h) (.slice ao5 L.length cp5))
  have HON:=hide (onlyA w1 (.cells #[.int .i64 0,.int .i64 2,.int .i64 0,.int .i64 0,.string h,.slice ao5 L.length cp5] 37))
  clear hl1 ho1 hWL
  obtain ⟨n5,hn5⟩:=exq (L.length)
  rw [hn5] at HPN HON ⊢
  have HN5:=hide hn5
  clear hn5
  go_wp2_with fail
  rw [← HN5.out] at HPN HON ⊢
  refine (HWL.out.enc _ HON.out).mono ?_
  rw [HN5.out] at HPN HON ⊢
  rintro e w2 ⟨⟨x,rfl⟩,ho2⟩
  obtain ⟨q0,q1,q2,q3,q4,q5,_⟩:=HPN.out.more ho2
  have HO2:=hide (o2 HON.out ho2)
  clear ho2 p0 p1 p2 p3 p4 p5
  cases hf:fitL h L
  · have HF2:=hide hf
    clear hf
    go_wp2_with fail
    go_ret2
    refine ⟨?_,o2 HO1.out HO2.out⟩
    unfold szV szE
    rw [HF2.out]
    rfl
  · have HF2:=hide hf
    clear hf
    go_wp2_with fail
    rw [← HN5.out]
    refine (HWL.out.size HF2.out _ HO2.out).mono ?_
    rw [HN5.out]
    rintro e w3 ⟨rfl,ho3⟩
    have HO3:=hide (o2 (o2 HO1.out HO2.out) ho3)
    clear ho3
    go_wp2_with fail
    go_ret2
    refine ⟨?_,HO3.out⟩
    unfold szV szE
    rw [HF2.out]
    rfl
set_option maxHeartbeats 1600000 in
theorem sizeWith_c (w:World) (a k v r:Int) (h:ByteArray) (B cp:Nat) (ao:Option Addr) (l:List ByteArray) (i:Nat) (s:ByteArray) (hS:Strs w B ao l) (hF:Fit ao l.length cp) (hi:i≤l.length) (hc:cp=l.length) (hm:cp=min (i+1) l.length) (hh:h.size≤140737488355328) (hs:s.size≤140737488355328) :
    Calls Tryz.prog 107 #[.agg #[.int .i64 a,.int .i64 k,.int .i64 v,.int .i64 r,.string h,.slice ao l.length cp],.int .i64 (i:Int),.string s] w fun e w'=>e=.returned (.tuple #[.int .i64 (szV h (putL l i s)),.int .i64 (szE h (putL l i s))])∧Only (fun _=>False) w w':=by
  have hcp:=hF.le
  have hbig:=hF.big
  unfold maxLen at hbig
  have HP:=hide (Pag.new w (.int .i64 a) (.int .i64 k) (.int .i64 v) (.int .i64 r) (.string h) (.slice ao l.length cp))
  have HO0:=hide (onlyA w (.cells #[.int .i64 a,.int .i64 k,.int .i64 v,.int .i64 r,.string h,.slice ao l.length cp] 37))
  have hsz:(w.alloc (.cells #[.int .i64 a,.int .i64 k,.int .i64 v,.int .i64 r,.string h,.slice ao l.length cp] 37)).heap.size=w.heap.size+1:=by simp
  have HCAT:Hid (∀ W,W=((w.alloc (.cells #[.int .i64 a,.int .i64 k,.int .i64 v,.int .i64 r,.string h,.slice ao l.length cp] 37)).alloc (.cells #[.string s] 9)).alloc (.cells #[.slice ao i cp,.slice (some ⟨w.heap.size+1,0,none⟩) 1 1,.slice ao 0 0] 35) →
      Calls Tryz.prog 129 #[.slice (some ⟨w.heap.size+1+1,0,none⟩) 3 3] W fun e w'=>∃ vx,e=.returned vx∧Ls w' W.heap.size vx (putL l i s)∧Only (fun _=>False) (w.alloc (.cells #[.int .i64 a,.int .i64 k,.int .i64 v,.int .i64 r,.string h,.slice ao l.length cp] 37)) w'):=fun W hW=>by
    have key:=with_cat (w.alloc (.cells #[.int .i64 a,.int .i64 k,.int .i64 v,.int .i64 r,.string h,.slice ao l.length cp] 37)) B cp ao ao l i cp s (hS.more HO0.out) hF hs hi hm (fun b o2 e hk=>absurd hk (by omega)) (fun e=>e) W
    rw [hsz] at key
    exact key (by rw [Nat.sub_self,show l.length - cp=0 from by omega]; exact hW)
  have HSS:Hid (∀ x ∈ putL l i s,x.size≤140737488355328):=fun x hx=>by
    rcases putL_mem hx with rfl | hx
    · exact hs
    · exact hS.size x hx
  obtain ⟨L,hL⟩:=exq (putL l i s)
  rw [hL] at HCAT HSS ⊢
  have hlen:=hS.len
  obtain ⟨n1,hn1⟩:∃ n1:Nat,i+1=n1:=⟨_,rfl⟩
  have hi0:(0:Int)≤(i:Int):=by omega
  have hi1:(i:Int)≤(l.length:Int):=by omega
  have hi2:(0:Int)≤(cp:Int):=by omega
  have hi3:(cp:Int)≤(l.length:Int):=by omega
  have hi4:(cp:Int)≤(cp:Int):=by omega
  have hi5:(i:Int)+1=(n1:Int):=by omega
  have hi8:IntKind.i64.wrap (n1:Int)=(n1:Int):=wraps_i64 _ (by omega) (by omega)
  have hi9:min (n1:Int) (l.length:Int)=(cp:Int):=by omega
  have hi6:(i:Int)≤(cp:Int):=by omega
  have hi7:(l.length:Int)≤(cp:Int):=by omega
  clear hm hn1 hc
  have HH:=hide hh
  clear hS hF hL hsz hh
  go_enter Tryz.func107,Tryz.ntmps107
  go_wp2_with fail
  refine (HCAT.out _ rfl).mono ?_
  rintro e w1 ⟨v1,rfl,hl1,ho1⟩
  obtain ⟨ao5,cp5,hWL⟩:=WithL.of h HH.out hl1 HSS.out
  obtain rfl:=hWL.val
  have HWL:=hide hWL
  obtain ⟨p0,p1,p2,p3,p4,p5,_⟩:=HP.out.more ho1
  have HO1:=hide (o2 HO0.out ho1)
  have HPN:=hide (Pag.new w1 (.int .i64 0) (.int .i64 2) (.int .i64 0) (.int .i64 0) (.string h) (.slice ao5 L.length cp5))
  have HON:=hide (onlyA w1 (.cells #[.int .i64 0,.int .i64 2,.int .i64 0,.int .i64 0,.string h,.slice ao5 L.length cp5] 37))
  clear hl1 ho1 hWL
  obtain ⟨n5,hn5⟩:=exq (L.length)
  rw [hn5] at HPN HON ⊢
  have HN5:=hide hn5
  clear hn5
  go_wp2_with fail
  rw [← HN5.out] at HPN HON ⊢
  refine (HWL.out.enc _ HON.out).mono ?_
  rw [HN5.out] at HPN HON ⊢
  rintro e w2 ⟨⟨x,rfl⟩,ho2⟩
  obtain ⟨q0,q1,q2,q3,q4,q5,_⟩:=HPN.out.more ho2
  have HO2:=hide (o2 HON.out ho2)
  clear ho2 p0 p1 p2 p3 p4 p5
  cases hf:fitL h L
  · have HF2:=hide hf
    clear hf
    go_wp2_with fail
    go_ret2
    refine ⟨?_,o2 HO1.out HO2.out⟩
    unfold szV szE
    rw [HF2.out]
    rfl
  · have HF2:=hide hf
    clear hf
    go_wp2_with fail
    rw [← HN5.out]
    refine (HWL.out.size HF2.out _ HO2.out).mono ?_
    rw [HN5.out]
    rintro e w3 ⟨rfl,ho3⟩
    have HO3:=hide (o2 (o2 HO1.out HO2.out) ho3)
    clear ho3
    go_wp2_with fail
    go_ret2
    refine ⟨?_,HO3.out⟩
    unfold szV szE
    rw [HF2.out]
    rfl
theorem sizeWith_any (w:World) (a k v r:Int) (h:ByteArray) (B cp:Nat) (ao:Option Addr) (l:List ByteArray) (i:Nat) (s:ByteArray) (hS:Strs w B ao l) (hF:Fit ao l.length cp) (hh:h.size≤140737488355328) (hs:s.size≤140737488355328) (hi:i≤l.length) :
    Calls Tryz.prog 107 #[pv a k v r h ao l.length cp,.int .i64 (i:Int),.string s] w fun e w'=>e=.returned (.tuple #[.int .i64 (szV h (putL l i s)),.int .i64 (szE h (putL l i s))])∧Only (fun _=>False) w w':=by
  by_cases hc:cp=min (i+1) l.length
  · have hcp:=hF.le
    exact sizeWith_c w a k v r h B cp ao l i s hS hF hi (by omega) hc hh hs
  · by_cases h0:0 < l.length
    · obtain ⟨o,rfl,_⟩:=hS.at_ h0
      exact sizeWith_a w a k v r h B cp o l i _ s hS hF hi rfl hc hh hs
    · have e:l=[]:=List.eq_nil_of_length_eq_zero (by omega)
      subst e
      have e:i=0:=by simpa using hi
      subst e
      cases ao with
      | none=>exact absurd (hF.nil rfl) (by simpa using hc)
      | some p=>exact sizeWith_b w a k v r h B cp p s hS hF (by simpa using hc) hh hs
def verL (k:Int) (l:List ByteArray) (i:Int):Option Tu:=if k=2∧0≤i∧i < l.length then decT (bl (l.getD i.toNat ⟨#[]⟩)) else none
theorem verL_kind {k:Int} {l:List ByteArray} {i:Int} (h:¬ k=2):verL k l i=none:=by unfold verL; rw [if_neg (fun c=>h c.1)]
theorem verL_low {k:Int} {l:List ByteArray} {i:Int} (h:i < 0):verL k l i=none:=by unfold verL; rw [if_neg (fun c=>by omega)]
theorem verL_high {k:Int} {l:List ByteArray} {i:Int} (h:¬ i < l.length):verL k l i=none:=by unfold verL; rw [if_neg (fun c=>h c.2.2)]
theorem verL_at {l:List ByteArray} {j:Nat} (h:j < l.length):verL 2 l (j:Int)=decT (bl l[j]):=by
  unfold verL
  rw [if_pos ⟨rfl,by omega,by omega⟩,Int.toNat_natCast]
  simp [List.getD,h]
def outV (o:Option Tu):Value:=.tuple #[(o.getD noT).agg,.int .i64 (if o.isSome then 0 else 120)]
structure Vst (w W:World) (a k v r:Int) (h:ByteArray) (ao:Option Addr) (n cp:Nat):Prop where
  pg:Pag W w.heap.size (.int .i64 a) (.int .i64 k) (.int .i64 v) (.int .i64 r) (.string h) (.slice ao n cp)
  res:Tb W (w.heap.size+1) noT
  only:Only (fun _=>False) w W
theorem Vst.new (w:World) (a k v r:Int) (h:ByteArray) (ao:Option Addr) (n cp:Nat):Vst w ((w.alloc (.cells #[.int .i64 a,.int .i64 k,.int .i64 v,.int .i64 r,.string h,.slice ao n cp] 37)).alloc (.cells #[.int .i64 0,.int .i64 0,.bool false,.string ⟨#[]⟩,.string ⟨#[]⟩] 78)) a k v r h ao n cp:=by
  refine ⟨(Pag.new w _ _ _ _ _ _).more (onlyA _ _),?_,o2 (onlyA _ _) (onlyA _ _)⟩
  have:=Tb.new (w.alloc (.cells #[.int .i64 a,.int .i64 k,.int .i64 v,.int .i64 r,.string h,.slice ao n cp] 37)) noT
  rw [World.size_alloc] at this
  exact this
theorem Vst.more {w W W':World} {a k v r:Int} {h:ByteArray} {ao:Option Addr} {n cp:Nat} (H:Vst w W a k v r h ao n cp) (ho:Only (fun _=>False) W W'):Vst w W' a k v r h ao n cp:=⟨H.pg.more ho,H.res.more ho,o2 H.only ho⟩
theorem Vst.stored {w W:World} {a k v r:Int} {h:ByteArray} {ao:Option Addr} {n cp:Nat} (H:Vst w W a k v r h ao n cp) (v0 v1 v2 v3 v4:Value):Only (fun _=>False) w (((((W.setCell ⟨w.heap.size+1,0,none⟩ v0).setCell ⟨w.heap.size+1,1,none⟩ v1).setCell ⟨w.heap.size+1,2,none⟩ v2).setCell ⟨w.heap.size+1,3,none⟩ v3).setCell ⟨w.heap.size+1,4,none⟩ v4) :=
  H.only.trans (Only.fiveU W (w.heap.size+1) v0 v1 v2 v3 v4) (fun j hj e=>by omega)
set_option maxHeartbeats 1600000 in
theorem version_any (w:World) (a k v r:Int) (h:ByteArray) (B cp:Nat) (ao:Option Addr) (l:List ByteArray) (i:Int) (hS:Strs w B ao l) :
    Calls Tryz.prog 179 #[pv a k v r h ao l.length cp,.int .i64 i] w fun e w'=>e=.returned (outV (verL k l i))∧Only (fun _=>False) w w':=by
  have hlen:=hS.len
  have HS:=hide hS
  have HV0:=hide (Vst.new w a k v r h ao l.length cp)
  clear hS
  go_enter Tryz.func179,Tryz.ntmps179
  go_wp2_with fail
  refine (isHeap_any _ a k v r h ao l.length cp).mono ?_
  rintro e w1 ⟨rfl,ho1⟩
  have HV:=hide (HV0.out.more ho1)
  clear ho1 HV0
  obtain ⟨p0,p1,p2,p3,p4,p5,_⟩:=HV.out.pg
  obtain ⟨t0,t1,t2,t3,t4,g0,g1,g2,g3,g4,_⟩:=HV.out.res
  by_cases hk:k=2
  · subst hk
    rw [show ((2:Int) == 2)=true from rfl]
    by_cases h0:i < 0
    · have HE:=hide (verL_low (k:=2) (l:=l) h0)
      go_wp2_with fail
      refine bodyPost_ret (results_tub rfl rfl (HV.out.res.all noT)) rfl ?_
      rw [HE.out]
      exact ⟨rfl,HV.out.stored _ _ _ _ _⟩
    · by_cases h1:i < (l.length:Int)
      · obtain ⟨j,rfl⟩:∃ j:Nat,i=(j:Int):=⟨i.toNat,by omega⟩
        have hj:j < l.length:=by omega
        have HE:=hide (verL_at hj)
        obtain ⟨o,rfl,hc⟩:=(HS.out.more HV.out.only).at_ (by omega)
        have ck:=hc j hj
        have HD:Hid (∀ W,Calls Tryz.prog 189 #[.string l[j]] W fun e w'=>e=.returned (outT (decT (bl l[j])))∧Only (fun _=>False) W w'):=fun W=>udecode_any _ W
        obtain ⟨x,hx⟩:=exq (l[j])
        rw [hx] at ck HE HD
        have h2:¬ (l.length:Int)≤(j:Int):=by omega
        clear hc hx hj
        cases hd:decT (bl x) with
        | none=>
          rw [hd] at HE HD
          unfold outT noT Tu.agg at HD
          simp only [Option.getD_none,Option.isSome_none] at HD
          clear hd
          go_wp2_with fail
          refine (HD.out _).mono ?_
          rintro e w2 ⟨rfl,ho2⟩
          have HV2:=hide (HV.out.more ho2)
          have HV3:=hide (HV2.out.more (onlyA w2 (.cells #[.int .i64 0,.int .i64 0,.bool false,.string ⟨#[]⟩,.string ⟨#[]⟩] 78)))
          clear ho2 p0 p1 p2 p3 p4 p5 t0 t1 t2 t3 t4 g0 g1 g2 g3 g4
          go_upto_region 4 with fail
          obtain ⟨w3,hw3⟩:=exq (w2.alloc (.cells #[.int .i64 0,.int .i64 0,.bool false,.string ⟨#[]⟩,.string ⟨#[]⟩] 78))
          rw [hw3] at HV3 ⊢
          clear hw3
          obtain ⟨t0,t1,t2,t3,t4,g0,g1,g2,g3,g4,_⟩:=HV3.out.res
          go_wp2_with fail
          refine bodyPost_ret (results_tub rfl rfl (HV3.out.res.all noT)) rfl ?_
          rw [HE.out]
          exact ⟨rfl,HV3.out.stored _ _ _ _ _⟩
        | some t=>
          rw [hd] at HE HD
          unfold outT Tu.agg at HD
          simp only [Option.getD_some,Option.isSome_some] at HD
          clear hd
          go_wp2_with fail
          refine (HD.out _).mono ?_
          rintro e w2 ⟨rfl,ho2⟩
          have HV2:=hide (HV.out.more ho2)
          have HV3:=hide (HV2.out.more (onlyA w2 (.cells #[.int .i64 t.xmin,.int .i64 t.xmax,.bool t.frozen,.string t.key,.string t.value] 78)))
          have HT3:=hide (Tb.new w2 t)
          clear ho2 p0 p1 p2 p3 p4 p5 t0 t1 t2 t3 t4 g0 g1 g2 g3 g4
          go_upto_region 4 with fail
          obtain ⟨w3,hw3⟩:=exq (w2.alloc (.cells #[.int .i64 t.xmin,.int .i64 t.xmax,.bool t.frozen,.string t.key,.string t.value] 78))
          rw [hw3] at HV3 HT3 ⊢
          clear hw3
          obtain ⟨t0,t1,t2,t3,t4,g0,g1,g2,g3,g4,_⟩:=HV3.out.res
          obtain ⟨u0,u1,u2,u3,u4,_⟩:=HT3.out
          go_wp2_with fail
          refine bodyPost_ret (results_tub rfl rfl (HV3.out.res.all t)) rfl ?_
          rw [HE.out]
          exact ⟨rfl,HV3.out.stored _ _ _ _ _⟩
      · have HE:=hide (verL_high (k:=2) h1)
        go_wp2_with fail
        refine bodyPost_ret (results_tub rfl rfl (HV.out.res.all noT)) rfl ?_
        rw [HE.out]
        exact ⟨rfl,HV.out.stored _ _ _ _ _⟩
  · have HE:=hide (verL_kind (l:=l) (i:=i) hk)
    rw [show (k == 2)=false from by simpa using hk]
    clear hk
    go_wp2_with fail
    refine bodyPost_ret (results_tub rfl rfl (HV.out.res.all noT)) rfl ?_
    rw [HE.out]
    exact ⟨rfl,HV.out.stored _ _ _ _ _⟩
def lookL (k:Int) (l:List ByteArray) (i:Int) (key:ByteArray):Option Tu:=match verL k l i with | some t=>if t.key=key then some t else none | none=>none
def outL (o:Option Tu):Value:=.tuple #[(o.getD noT).agg,.bool o.isSome]
set_option maxHeartbeats 1600000 in
theorem look_any (w:World) (a k v r:Int) (h:ByteArray) (B cp:Nat) (ao:Option Addr) (l:List ByteArray) (i:Int) (key:ByteArray) (hS:Strs w B ao l) :
    Calls Tryz.prog 162 #[pv a k v r h ao l.length cp,.int .i64 i,.string key] w fun e w'=>e=.returned (outL (lookL k l i key))∧Only (fun _=>False) w w':=by
  have HV:=hide (Vst.new w a k v r h ao l.length cp)
  have HC:=hide (version_any _ a k v r h B cp ao l i (hS.more HV.out.only))
  unfold lookL
  clear hS
  cases hd:verL k l i with
  | none=>
    rw [hd] at HC
    unfold outV noT Tu.agg at HC
    simp only [Option.getD_none,Option.isSome_none] at HC ⊢
    clear hd
    go_enter Tryz.func162,Tryz.ntmps162
    go_wp2_with fail
    refine HC.out.mono ?_
    rintro e w2 ⟨rfl,ho2⟩
    have HV2:=hide (HV.out.more ho2)
    have HV3:=hide (HV2.out.more (onlyA w2 (.cells #[.int .i64 0,.int .i64 0,.bool false,.string ⟨#[]⟩,.string ⟨#[]⟩] 78)))
    clear ho2
    go_upto_region 2 with fail
    obtain ⟨w3,hw3⟩:=exq (w2.alloc (.cells #[.int .i64 0,.int .i64 0,.bool false,.string ⟨#[]⟩,.string ⟨#[]⟩] 78))
    rw [hw3] at HV3 ⊢
    clear hw3
    obtain ⟨t0,t1,t2,t3,t4,g0,g1,g2,g3,g4,_⟩:=HV3.out.res
    go_wp2_with fail
    refine bodyPost_ret (results_tub rfl rfl (HV3.out.res.all noT)) rfl ?_
    exact ⟨rfl,HV3.out.stored _ _ _ _ _⟩
  | some t=>
    rw [hd] at HC
    unfold outV Tu.agg at HC
    simp only [Option.getD_some,Option.isSome_some] at HC ⊢
    clear hd
    obtain ⟨Y,hY⟩:=exq ((if t.key=key then some t else none))
    rw [hY]
    have HY:=hide hY
    clear hY
    go_enter Tryz.func162,Tryz.ntmps162
    go_wp2_with fail
    refine HC.out.mono ?_
    rintro e w2 ⟨rfl,ho2⟩
    have HV2:=hide (HV.out.more ho2)
    have HV3:=hide (HV2.out.more (onlyA w2 (.cells #[.int .i64 t.xmin,.int .i64 t.xmax,.bool t.frozen,.string t.key,.string t.value] 78)))
    have HT3:=hide (Tb.new w2 t)
    clear ho2
    go_upto_region 2 with fail
    obtain ⟨w3,hw3⟩:=exq (w2.alloc (.cells #[.int .i64 t.xmin,.int .i64 t.xmax,.bool t.frozen,.string t.key,.string t.value] 78))
    rw [hw3] at HV3 HT3 ⊢
    clear hw3
    obtain ⟨t0,t1,t2,t3,t4,g0,g1,g2,g3,g4,_⟩:=HV3.out.res
    obtain ⟨u0,u1,u2,u3,u4,_⟩:=HT3.out
    by_cases hk:t.key=key
    · have HK:=hide hk
      have hkb:(!t.key.toList == key.toList)=false:=by simp only [ba_eqU hk,Bool.not_true]
      clear hk
      go_wp2_with fail
      refine bodyPost_ret (results_tub rfl rfl (HV3.out.res.all t)) rfl ?_
      rw [← HY.out,if_pos HK.out]
      exact ⟨rfl,HV3.out.stored _ _ _ _ _⟩
    · have HK:=hide hk
      have hkb:(!t.key.toList == key.toList)=true:=by simp only [ba_neU hk,Bool.not_false]
      clear hk
      go_wp2_with fail
      refine bodyPost_ret (results_tub rfl rfl (HV3.out.res.all noT)) rfl ?_
      rw [← HY.out,if_neg HK.out]
      exact ⟨rfl,HV3.out.stored _ _ _ _ _⟩
theorem ended_ok (w:World) (t:Tu) (own:Int) (h1:¬ own < 1) (h2:¬ own=t.xmax) (hb0:-9223372036854775808≤t.xmin∧t.xmin < 9223372036854775808) (hb1:-9223372036854775808≤own∧own < 9223372036854775808) :
    Calls Tryz.prog 194 #[t.agg,.int .i64 own] w fun e w'=>e=.returned (.tuple #[.string (str (Tu.out ⟨t.xmin,own,t.frozen,t.key,t.value⟩)),.bool (Tu.err ⟨t.xmin,own,t.frozen,t.key,t.value⟩ == 0)])∧Only (fun _=>False) w w':=by
  have HC:Hid (∀ W,Calls Tryz.prog 45 #[.agg #[.int .i64 t.xmin,.int .i64 own,.bool t.frozen,.string t.key,.string t.value]] W fun e w'=>e=.returned (.tuple #[.string (str (Tu.out ⟨t.xmin,own,t.frozen,t.key,t.value⟩)),.int .i64 (Tu.err ⟨t.xmin,own,t.frozen,t.key,t.value⟩)])∧Only (fun _=>False) W w'):=fun W=>uencode_any ⟨t.xmin,own,t.frozen,t.key,t.value⟩ W hb0 hb1
  have h2':(own == t.xmax)=false:=by simpa using h2
  obtain ⟨S,hS⟩:=exq (str (Tu.out ⟨t.xmin,own,t.frozen,t.key,t.value⟩))
  obtain ⟨E,hE⟩:=exq (Tu.err ⟨t.xmin,own,t.frozen,t.key,t.value⟩)
  rw [hS,hE] at HC ⊢
  unfold Tu.agg
  have HO:=hide (onlyA w (.cells #[.int .i64 t.xmin,.int .i64 t.xmax,.bool t.frozen,.string t.key,.string t.value] 78))
  have HT:=hide ((Tb.new w t).s1 own)
  clear hS hE h2
  go_enter Tryz.func194,Tryz.ntmps194
  go_wp2_with fail
  refine (HC.out _).mono ?_
  rintro e w2 ⟨rfl,ho2⟩
  have HO2:Hid (Only (fun _=>False) w w2):=o2 (onlyA w _) ho2
  clear ho2
  go_wp2_with fail
  go_ret2
  exact ⟨rfl,HO2.out⟩
theorem results_cell1 {fn:Func} {p:Tmp} {ty:TypeId} (h:fn.results=#[.cell p ty]) {tmps:Array Value} {w:World} {b:Nat} {v:Value} (hp:tmps.getD p undef=.pointer (some ⟨b,0,none⟩)) (hP:(loadVar ty ⟨b,0,none⟩).run Tryz.prog w=.ok v w) :
    (results fn tmps).run Tryz.prog w=.ok v w:=by
  have e:(asAddr (tmps.getD p undef)).run Tryz.prog w=.ok ⟨b,0,none⟩ w:=by rw [hp]; rfl
  have key:(results fn tmps).run Tryz.prog w=((asAddr (tmps.getD p undef)).run Tryz.prog w).andThen fun a w₁=>(loadVar ty a).run Tryz.prog w₁:=by
    simp only [results,h]
    simp [Sem.run_bind,Result.andThen]
  rw [key,e]
  simp only [Result.andThen,hP]
def hinsE (k:Int) (h:ByteArray) (l:List ByteArray) (t:Tu):Int:=if k=2 then (if t.ok then szE h (putL l (slotL l) (str t.enc)) else 110) else 120
def insR (l:List ByteArray) (g:Int) (t:Tu):Hr:=⟨1,t.xmin,g,slotL l,0,0,str t.enc⟩
structure Ist (w W:World) (a k v r:Int) (h:ByteArray) (ao:Option Addr) (n cp:Nat) (t:Tu):Prop where
  pg:Pag W w.heap.size (.int .i64 a) (.int .i64 k) (.int .i64 v) (.int .i64 r) (.string h) (.slice ao n cp)
  tb:Tb W (w.heap.size+1) t
  res:Hb W (w.heap.size+1+1) Hr.none
  only:Only (fun _=>False) w W
theorem Ist.new (w:World) (a k v r:Int) (h:ByteArray) (ao:Option Addr) (n cp:Nat) (t:Tu):Ist w (((w.alloc (.cells #[.int .i64 a,.int .i64 k,.int .i64 v,.int .i64 r,.string h,.slice ao n cp] 37)).alloc (.cells #[.int .i64 t.xmin,.int .i64 t.xmax,.bool t.frozen,.string t.key,.string t.value] 78)).alloc (.cells Hr.none.cells 50)) a k v r h ao n cp t:=by
  refine ⟨((Pag.new w _ _ _ _ _ _).more (onlyA _ _)).more (onlyA _ _),?_,?_,o2 (o2 (onlyA _ _) (onlyA _ _)) (onlyA _ _)⟩
  · have:=(Tb.new (w.alloc (.cells #[.int .i64 a,.int .i64 k,.int .i64 v,.int .i64 r,.string h,.slice ao n cp] 37)) t).more (onlyA _ (.cells Hr.none.cells 50))
    rw [World.size_alloc] at this
    exact this
  · have:=Hb.new ((w.alloc (.cells #[.int .i64 a,.int .i64 k,.int .i64 v,.int .i64 r,.string h,.slice ao n cp] 37)).alloc (.cells #[.int .i64 t.xmin,.int .i64 t.xmax,.bool t.frozen,.string t.key,.string t.value] 78)) Hr.none
    rw [World.size_alloc,World.size_alloc] at this
    exact this
theorem Ist.more {w W W':World} {a k v r:Int} {h:ByteArray} {ao:Option Addr} {n cp:Nat} {t:Tu} (H:Ist w W a k v r h ao n cp t) (ho:Only (fun _=>False) W W'):Ist w W' a k v r h ao n cp t:=⟨H.pg.more ho,H.tb.more ho,H.res.more ho,o2 H.only ho⟩
theorem Ist.sto {w W W':World} {a k v r:Int} {h:ByteArray} {ao:Option Addr} {n cp:Nat} {t:Tu} {q:Hr} (H:Ist w W a k v r h ao n cp t) (hs:StoH W W' (w.heap.size+1+1) q):Only (fun _=>False) w W' :=
  H.only.trans hs.only (fun i hi e=>by omega)
def outI (r:Hr) (c:Int):Value:=.tuple #[.agg r.cells,.int .i64 c]
set_option maxHeartbeats 1600000 in
theorem insert_any (w:World) (a k v r:Int) (h:ByteArray) (B cp:Nat) (ao:Option Addr) (l:List ByteArray) (g:Int) (t:Tu) (hS:Strs w B ao l) (hF:Fit ao l.length cp) (hh:h.size≤140737488355328) (ht0:-9223372036854775808≤t.xmin∧t.xmin < 9223372036854775808) (ht1:-9223372036854775808≤t.xmax∧t.xmax < 9223372036854775808) :
    Calls Tryz.prog 58 #[pv a k v r h ao l.length cp,.int .i64 g,t.agg] w fun e w'=>e=.returned (outI (if hinsE k h l t=0 then insR l g t else Hr.none) (hinsE k h l t))∧Only (fun _=>False) w w':=by
  have HI:=hide (Ist.new w a k v r h ao l.length cp t)
  have HSL:Hid (∀ W,Only (fun _=>False) w W→Calls Tryz.prog 106 #[.agg #[.int .i64 a,.int .i64 k,.int .i64 v,.int .i64 r,.string h,.slice ao l.length cp]] W fun e w'=>e=.returned (.int .i64 (slotL l))∧Only (fun _=>False) W w'):=fun W ho=>uslot_any W a k v r h B cp ao l (hS.more ho)
  have HSW:Hid (t.ok=true→∀ W,Only (fun _=>False) w W→Calls Tryz.prog 107 #[.agg #[.int .i64 a,.int .i64 k,.int .i64 v,.int .i64 r,.string h,.slice ao l.length cp],.int .i64 (slotL l:Int),.string (str t.enc)] W fun e w'=>e=.returned (.tuple #[.int .i64 (szV h (putL l (slotL l) (str t.enc))),.int .i64 (szE h (putL l (slotL l) (str t.enc)))])∧Only (fun _=>False) W w'):=fun hok W ho=>sizeWith_any W a k v r h B cp ao l (slotL l) (str t.enc) (hS.more ho) hF hh (by rw [str_size,enc_lenT hok]; have:=Tu.ok_iff.1 hok; omega) (slotL_le l)
  have HEN:Hid (∀ W,Calls Tryz.prog 45 #[.agg #[.int .i64 t.xmin,.int .i64 t.xmax,.bool t.frozen,.string t.key,.string t.value]] W fun e w'=>e=.returned (.tuple #[.string (str t.out),.int .i64 t.err])∧Only (fun _=>False) W w'):=fun W=>uencode_any t W ht0 ht1
  clear hS hF
  unfold Tu.agg
  have c120:Hid (¬ k=2→hinsE k h l t=120):=fun hk=>by unfold hinsE; rw [if_neg hk]
  have c110:Hid (k=2→t.ok=false→hinsE k h l t=110):=fun hk ho=>by unfold hinsE; rw [if_pos hk,ho]; rfl
  have c0:Hid (k=2→t.ok=true→hinsE k h l t=szE h (putL l (slotL l) (str t.enc))):=fun hk ho=>by unfold hinsE; rw [if_pos hk,ho]; rfl
  obtain ⟨IE,hIE⟩:=exq (hinsE k h l t)
  rw [hIE] at c120 c110 c0 ⊢
  clear hIE
  have HRR:Hid (insR l g t=⟨1,t.xmin,g,slotL l,0,0,str t.enc⟩):=rfl
  obtain ⟨IR,hIR⟩:=exq (insR l g t)
  rw [hIR] at HRR ⊢
  clear hIR
  obtain ⟨Y,hY⟩:=exq ((if IE=0 then IR else Hr.none))
  rw [hY]
  have HY:=hide hY
  clear hY
  by_cases hk:k=2
  · have hk':(k == 2)=true:=by simpa using hk
    have HK:=hide hk
    clear hk
    go_enter Tryz.func58,Tryz.ntmps58
    go_upto_region 1 with fail
    obtain ⟨W0,hW0⟩:=exq (((w.alloc (.cells #[.int .i64 a,.int .i64 k,.int .i64 v,.int .i64 r,.string h,.slice ao l.length cp] 37)).alloc (.cells #[.int .i64 t.xmin,.int .i64 t.xmax,.bool t.frozen,.string t.key,.string t.value] 78)).alloc (.cells Hr.none.cells 50))
    rw [hW0] at HI ⊢
    clear hW0
    obtain ⟨p0,p1,p2,p3,p4,p5,_⟩:=HI.out.pg
    go_wp2_with fail
    refine (isHeap_any _ a k v r h ao l.length cp).mono ?_
    rintro e w1 ⟨rfl,ho1⟩
    rw [hk']
    have HI1:=hide (HI.out.more ho1)
    clear ho1 p0 p1 p2 p3 p4 p5
    obtain ⟨t0,t1,t2,t3,t4,_⟩:=HI1.out.tb
    go_wp2_with fail
    refine (HEN.out _).mono ?_
    rintro e w2 ⟨rfl,ho2⟩
    have HI2:=hide (HI1.out.more ho2)
    clear ho2 t0 t1 t2 t3 t4
    cases hok:t.ok
    · have e1:t.err=110:=by unfold Tu.err; rw [hok]; rfl
      have e2:=c110.out HK.out hok
      have HY2:Hid (Y=Hr.none):=by unfold Hid; rw [← HY.out,e2]; rfl
      clear HY
      subst e2
      obtain ⟨TE,hTE⟩:=exq (t.err)
      rw [e1]
      clear hk' c0 c120 c110 hTE e1 hok
      go_upto_region 5 with fail
      go_wp2_with (first | (refine wpList_build_hnone rfl rfl ?_; go_frame) | (refine wpList_put_hr rfl (.tmp 6) (.tmp 24) rfl (w.heap.size+1+1) rfl Hr.none Hr.none rfl HI2.out.res ?_; intro W9 HW9; go_frame))
      refine bodyPost_ret (results_hr rfl rfl HW9.out.at_) rfl ?_
      rw [HY2.out]
      exact ⟨rfl,HI2.out.sto HW9.out⟩
    · have e1:t.err=0:=by unfold Tu.err; rw [hok]; rfl
      have e3:t.out=t.enc:=by unfold Tu.out; rw [hok]; rfl
      have e2:=c0.out HK.out hok
      have HSW:=hide (HSW.out hok)
      rw [e1,e3]
      obtain ⟨V,hV⟩:=exq (szV h (putL l (slotL l) (str t.enc)))
      rw [hV,← e2] at HSW
      have HFE:Hid (IE=0∨IE=121):=by
        unfold Hid
        rw [e2]
        cases hf:fitL h (putL l (slotL l) (str t.enc))
        · exact .inr (szE_no hf)
        · exact .inl (szE_fit hf)
      clear hk' c0 c120 c110 e1 e3 e2 hV
      obtain ⟨N,hN⟩:=exq (slotL l)
      rw [hN] at HSL HSW HRR
      obtain ⟨D,hD⟩:=exq (str t.enc)
      rw [hD] at HSW HRR ⊢
      clear hN hD hok
      obtain ⟨p0,p1,p2,p3,p4,p5,_⟩:=HI2.out.pg
      go_wp2_with fail
      refine (HSL.out _ HI2.out.only).mono ?_
      rintro e w3 ⟨rfl,ho3⟩
      have HI3:=hide (HI2.out.more ho3)
      clear ho3 p0 p1 p2 p3 p4 p5
      obtain ⟨p0,p1,p2,p3,p4,p5,_⟩:=HI3.out.pg
      go_wp2_with fail
      refine (HSW.out _ HI3.out.only).mono ?_
      rintro e w4 ⟨rfl,ho4⟩
      have HI4:=hide (HI3.out.more ho4)
      clear ho4 p0 p1 p2 p3 p4 p5
      rcases HFE.out with e | e
      · have HY2:Hid (Y=⟨1,t.xmin,g,(N:Int),0,0,D⟩):=by unfold Hid; rw [← HY.out,if_pos e,HRR.out]
        subst e
        clear HY
        obtain ⟨t0,t1,t2,t3,t4,_⟩:=HI4.out.tb
        go_upto_region 10 with fail
        go_wp2_with (refine wpList_build_ins rfl (.tmp 40) (.tmp 41) (.tmp 42) (.tmp 43) rfl t.xmin g (N:Int) D rfl rfl rfl rfl ?_; go_frame; refine wpList_put_hr rfl (.tmp 6) (.tmp 44) rfl (w.heap.size+1+1) rfl Hr.none ⟨1,t.xmin,g,(N:Int),0,0,D⟩ rfl HI4.out.res ?_; intro W9 HW9; go_frame)
        refine bodyPost_ret (results_hr rfl rfl HW9.out.at_) rfl ?_
        rw [HY2.out]
        exact ⟨rfl,HI4.out.sto HW9.out⟩
      · have HY2:Hid (Y=Hr.none):=by unfold Hid; rw [← HY.out,e]; rfl
        subst e
        clear HY
        go_upto_region 9 with fail
        go_wp2_with (first | (refine wpList_build_hnone rfl rfl ?_; go_frame) | (refine wpList_put_hr rfl (.tmp 6) (.tmp 37) rfl (w.heap.size+1+1) rfl Hr.none Hr.none rfl HI4.out.res ?_; intro W9 HW9; go_frame))
        refine bodyPost_ret (results_hr rfl rfl HW9.out.at_) rfl ?_
        rw [HY2.out]
        exact ⟨rfl,HI4.out.sto HW9.out⟩
  · have hk':(k == 2)=false:=by simpa using hk
    have e2:=c120.out hk
    have HY2:Hid (Y=Hr.none):=by unfold Hid; rw [← HY.out,e2]; rfl
    clear HY
    subst e2
    clear hk c0 c120 c110
    go_enter Tryz.func58,Tryz.ntmps58
    go_upto_region 1 with fail
    obtain ⟨W0,hW0⟩:=exq (((w.alloc (.cells #[.int .i64 a,.int .i64 k,.int .i64 v,.int .i64 r,.string h,.slice ao l.length cp] 37)).alloc (.cells #[.int .i64 t.xmin,.int .i64 t.xmax,.bool t.frozen,.string t.key,.string t.value] 78)).alloc (.cells Hr.none.cells 50))
    rw [hW0] at HI ⊢
    clear hW0
    obtain ⟨p0,p1,p2,p3,p4,p5,_⟩:=HI.out.pg
    go_wp2_with fail
    refine (isHeap_any _ a k v r h ao l.length cp).mono ?_
    rintro e w1 ⟨rfl,ho1⟩
    rw [hk']
    have HI1:=hide (HI.out.more ho1)
    clear ho1 p0 p1 p2 p3 p4 p5
    go_upto_region 2 with fail
    go_wp2_with (refine wpList_build_hnone rfl rfl ?_; go_frame; refine wpList_put_hr rfl (.tmp 6) (.tmp 16) rfl (w.heap.size+1+1) rfl Hr.none Hr.none rfl HI1.out.res ?_; intro W9 HW9; go_frame)
    refine bodyPost_ret (results_hr rfl rfl HW9.out.at_) rfl ?_
    rw [HY2.out]
    exact ⟨rfl,HI1.out.sto HW9.out⟩
end Go.Proofs.YtajjakljheafjaaGreat
