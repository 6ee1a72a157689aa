/- Parts. -/
import Derived.Test.YtipkeeobmihogaaGreatK14
set_option maxRecDepth 100000
namespace Go.Proofs.YtipkeeobmihogaaGreat
open Go.RowKit
set_option maxHeartbeats 1600000 in
theorem readInner_bad (w:World) (a k v r:Int) (h:ByteArray) (ao:Option Addr) (n cp:Nat) (hk:¬ k=3) :
    Calls Tryz.prog 73 #[.agg #[.int .i64 a,.int .i64 k,.int .i64 v,.int .i64 r,.string h,.slice ao n cp]] w fun e w'=>e=.returned (.tuple #[.agg #[.slice none 0 0,.slice none 0 0,.string ⟨#[]⟩,.int .i64 0,.int .i64 0],.bool false])∧Only (fun _=>False) w w':=by
  have HX:=hide (lf_new w (.int .i64 a) (.int .i64 k) (.int .i64 v) (.int .i64 r) (.string h) (.slice ao n cp))
  have HRH:Hid (∀ W,Calls Tryz.prog 104 #[.agg #[.int .i64 a,.int .i64 k,.int .i64 v,.int .i64 r,.string h,.slice ao n cp]] W fun e w'=>e=.returned (.tuple #[.agg #[.string ⟨#[]⟩,.int .i64 0,.int .i64 0],.bool false])∧Only (fun _=>False) W w'):=fun W=>readHead_bad W a k v r h ao n cp hk
  clear hk
  go_enter Tryz.func73,Tryz.ntmps73
  go_upto_region 1 with fail
  obtain ⟨W0,hW0⟩:=exq ((w.alloc (.cells #[.int .i64 a,.int .i64 k,.int .i64 v,.int .i64 r,.string h,.slice ao n cp] 24)).alloc (.cells #[.slice none 0 0,.slice none 0 0,.string ⟨#[]⟩,.int .i64 0,.int .i64 0] 85))
  rw [hW0] at HX ⊢
  clear hW0
  obtain ⟨p0,p1,p2,p3,p4,p5,_⟩:=HX.out.1
  go_wp2_with fail
  refine (HRH.out _).mono ?_
  rintro e w1 ⟨rfl,ho⟩
  have HC1:=hide (HX.out.2.1.more ho)
  have HO1:=hide (o2 HX.out.2.2 ho)
  clear ho p0 p1 p2 p3 p4 p5 HX HRH
  go_upto_region 2 with fail
  have HA:=hide (onlyA w1 (.cells #[.string ⟨#[]⟩,.int .i64 0,.int .i64 0] 41))
  obtain ⟨w2,hw2⟩:=exq (w1.alloc (.cells #[.string ⟨#[]⟩,.int .i64 0,.int .i64 0] 41))
  rw [hw2] at HA ⊢
  clear hw2
  have HC2:=hide (HC1.out.more HA.out)
  have HO2:=hide (o2 HO1.out HA.out)
  clear HA HC1 HO1
  obtain ⟨r0,r1,r2,r3,r4,f0,f1,f2,f3,f4,_⟩:=HC2.out
  go_wp2_with fail
  refine bodyPost_ret (results_cv rfl rfl (HC2.out.all _ _ noE)) rfl ?_
  exact ⟨rfl,HO2.out.trans (Only.five w2 (w.heap.size+1) _ _ _ _ _) (fun i hi e=>by omega)⟩
theorem laid_at (e:En) (W:World) (g:Nat) (c:Int) (hf:e.few) (hc:c < 9223372036854775808) (hg:g < W.heap.size) (hx:W.cell? ⟨g,0,none⟩=some (.int .i64 c)):Calls Tryz.prog 65 #[e.agg,.slice (some ⟨g,0,none⟩) 1 1] W fun x w'=>x=.returned (.string (e.encS c))∧Only (fun _=>False) W w':=by
  have h:=laid_any e W (some ⟨g,0,none⟩) 1 [c] hf (.inr ⟨g,0,rfl,hg,fun k hk=>by
    have:k=0:=by simpa using hk
    subst this
    exact hx⟩) (by simp) (fun k hk=>by
    have:k=0:=by simpa using hk
    subst this
    simpa using hc)
  rw [nums_one] at h
  exact h
theorem strsN (w:World) (k v:ByteArray) (hk:k.size≤55) (hv:v.size≤55):Strs (w.alloc (.cells #[.string k,.string v] 9)) w.heap.size (some ⟨w.heap.size,0,none⟩) [k,v]:=by
  refine ⟨fun _=>⟨0,rfl,fun j hj=>?_⟩,fun _=>by simp,by simp,fun s hs=>?_⟩
  · match j,hj with
    | 0,_=>simp
    | 1,_=>simp
  · simp only [List.mem_cons,List.not_mem_nil,or_false] at hs
    rcases hs with rfl | rfl <;> omega
theorem rt_new (w:World) (e:En):Ev ((w.alloc (.cells #[.string e.key,.int .i64 e.page,.int .i64 e.slot] 41)).alloc (.cells #[.int .i64 0,.int .i64 0,.int .i64 0,.int .i64 0,.string ⟨#[]⟩,.slice none 0 0] 24)) w.heap.size e∧Pag ((w.alloc (.cells #[.string e.key,.int .i64 e.page,.int .i64 e.slot] 41)).alloc (.cells #[.int .i64 0,.int .i64 0,.int .i64 0,.int .i64 0,.string ⟨#[]⟩,.slice none 0 0] 24)) (w.heap.size+1) (.int .i64 0) (.int .i64 0) (.int .i64 0) (.int .i64 0) (.string ⟨#[]⟩) (.slice none 0 0)∧Only (fun _=>False) w ((w.alloc (.cells #[.string e.key,.int .i64 e.page,.int .i64 e.slot] 41)).alloc (.cells #[.int .i64 0,.int .i64 0,.int .i64 0,.int .i64 0,.string ⟨#[]⟩,.slice none 0 0] 24)):=by
  refine ⟨(Ev.new w e).more (onlyA _ _),?_,o2 (onlyA _ _) (onlyA _ _)⟩
  have e1:=Pag.new (w.alloc (.cells #[.string e.key,.int .i64 e.page,.int .i64 e.slot] 41)) (.int .i64 0) (.int .i64 0) (.int .i64 0) (.int .i64 0) (.string ⟨#[]⟩) (.slice none 0 0)
  rw [World.size_alloc] at e1
  exact e1
theorem noE_encS_size (c:Int):(noE.encS c).size≤55:=by
  rw [← bl_len,bl_encS]
  exact layS_len c (by decide)
theorem encS_sizeR {e:En} (c:Int) (h:e.ok=true):(e.encS c).size≤55:=by
  rw [← bl_len,bl_encS]
  exact layS_len c (En.few_ok h).1
set_option maxHeartbeats 3200000 in
theorem root_ok (w:World) (v c d:Int) (e:En) (hv:1≤v∧v≤255) (hc:okC c=true) (hd:okC d=true) (he:e.ok=true) :
    Calls Tryz.prog 50 #[.int .i64 v,.int .i64 c,e.agg,.int .i64 d] w fun x w'=>Res w w' x ⟨0,3,v,0,⟨#[]⟩,[noE.encS c,e.encS d]⟩ 0:=by
  have HX:=hide (rt_new w e)
  have HIE:Hid (∀ W,Calls Tryz.prog 60 #[.agg #[.string e.key,.int .i64 e.page,.int .i64 e.slot]] W fun x w'=>x=.returned (.bool true)∧Only (fun _=>False) W w'):=fun W=>by
    have:=isEntry_any e W
    rw [he] at this
    exact this
  have HIC:Hid (∀ W,Calls Tryz.prog 81 #[.int .i64 c] W fun x w'=>x=.returned (.bool true)∧w'=W):=fun W=>by
    have:=isChild_any c W
    rwa [hc] at this
  have HID:Hid (∀ W,Calls Tryz.prog 81 #[.int .i64 d] W fun x w'=>x=.returned (.bool true)∧w'=W):=fun W=>by
    have:=isChild_any d W
    rwa [hd] at this
  have HLC:Hid (∀ (W:World) (g:Nat),g < W.heap.size→W.cell? ⟨g,0,none⟩=some (.int .i64 c)→Calls Tryz.prog 65 #[.agg #[.string ⟨#[]⟩,.int .i64 0,.int .i64 0],.slice (some ⟨g,0,none⟩) 1 1] W fun x w'=>x=.returned (.string (noE.encS c))∧Only (fun _=>False) W w'):=fun W g h1 h2=>laid_at noE W g c (En.few_sp (En.sp_iff.2 (.inl rfl))) (by have:=(okC_iff.1 hc).2; omega) h1 h2
  have HLD:Hid (∀ (W:World) (g:Nat),g < W.heap.size→W.cell? ⟨g,0,none⟩=some (.int .i64 d)→Calls Tryz.prog 65 #[.agg #[.string e.key,.int .i64 e.page,.int .i64 e.slot],.slice (some ⟨g,0,none⟩) 1 1] W fun x w'=>x=.returned (.string (e.encS d))∧Only (fun _=>False) W w'):=fun W g h1 h2=>laid_at e W g d (En.few_ok he) (by have:=(okC_iff.1 hd).2; omega) h1 h2
  obtain ⟨E1,hE1⟩:=exq (noE.encS c)
  obtain ⟨E2,hE2⟩:=exq (e.encS d)
  have HZ:Hid (E1.size≤55∧E2.size≤55):=by rw [← hE1,← hE2]; exact ⟨noE_encS_size c,encS_sizeR d he⟩
  rw [hE1] at HLC ⊢
  rw [hE2] at HLD ⊢
  have t1:¬ v < 1:=by omega
  have t2:¬ (255:Int) < v:=by omega
  clear hE1 hE2 hv hc hd he
  unfold En.agg
  go_enter Tryz.func50,Tryz.ntmps50
  go_upto_region 1 with fail
  obtain ⟨W0,hW0⟩:=exq ((w.alloc (.cells #[.string e.key,.int .i64 e.page,.int .i64 e.slot] 41)).alloc (.cells #[.int .i64 0,.int .i64 0,.int .i64 0,.int .i64 0,.string ⟨#[]⟩,.slice none 0 0] 24))
  rw [hW0] at HX ⊢
  clear hW0
  obtain ⟨d0,d1,d2,_⟩:=HX.out.1
  go_wp2_with fail
  refine (HIE.out _).mono ?_
  rintro x W1 ⟨rfl,ho⟩
  have HV1:=hide (HX.out.1.more ho)
  have HP1:=hide (HX.out.2.1.more ho)
  have HO1:=hide (o2 HX.out.2.2 ho)
  clear ho d0 d1 d2 HX HIE
  go_wp2_with fail
  refine (HIC.out _).mono ?_
  rintro x w2 ⟨rfl,h4⟩
  obtain rfl:=h4.symm
  go_wp2_with fail
  refine (HID.out _).mono ?_
  rintro x w3 ⟨rfl,h5⟩
  obtain rfl:=h5.symm
  go_upto_region 3 with fail
  clear t1 t2 HIC HID
  go_cut [10] (fun s wx=>∃ B,s=.slice (some ⟨B,0,none⟩) 2 2∧Hid (Strs wx B (some ⟨B,0,none⟩) [E1,E2])∧Hid (Only (fun _=>False) W1 wx∧W1.heap.size≤B))
  case first=>
    -- {r3
    refine wp_region_noPanic ?_
    refine wp_region_held_drew (S:=fun W=>Only (fun _=>False) W1 W) (by kernel_rfl) (Only.drew _ _) (fun hHeld=>?_)
    refine tkP 0 (.agg #[.string ⟨#[]⟩,.int .i64 0,.int .i64 0]) rfl ?_
    refine tkP 1 (.int .i64 c) rfl ?_
    refine tkQ 4 (.agg #[.string e.key,.int .i64 e.page,.int .i64 e.slot]) rfl (yieldsIf_load_ev (by rfl) _ rfl rfl (fun W hW=>HV1.out.more hW)) ?_
    refine tkP 5 (.int .i64 d) rfl ?_
    refine wpAnyH_ready (rs:=[2,6]) (by kernel_rfl) (by simp) ?_
    refine arC rfl (fun K hK=>?_) (arC rfl (fun K hK=>?_) (AllReadyH.nil))
    · go_simp
      refine hK.out _ _ (o2 (onlyA _ _) (Only.drew _ _)) (fun hHeld=>?_)
      clear hK K
      try simp only [Act.put,lsA,lsB,lsC]
      refine wpAnyH_ready (rs:=[3,6]) (by kernel_rfl) (by simp) ?_
      refine arC rfl (fun K hK=>?_) (arC rfl (fun K hK=>?_) (AllReadyH.nil))
      · go_simp
        refine (HLC.out _ (W1.heap.size) (by simp <;> omega) (by simp)).mono ?_
        rintro x x1 ⟨rfl,hx1⟩
        have HX1:=hide (o2 (o2 (onlyA W1 _) (Only.drew _ _)) hx1)
        clear hx1
        refine hK.out _ _ (HX1.out) (fun hHeld=>?_)
        clear hK K
        try simp only [Act.put,lsA,lsB,lsC]
        refine rd1 6 rfl (fun K hK=>?_)
        go_simp
        refine hK.out _ _ (o2 HX1.out (onlyA _ _)) (fun hHeld=>?_)
        clear hK K
        try simp only [Act.put,lsA,lsB,lsC]
        refine rd1 7 rfl (fun K hK=>?_)
        go_simp
        refine (HLD.out _ x1.heap.size (by simp) (by simp)).mono ?_
        rintro x x2 ⟨rfl,hx2⟩
        have HX2:=hide (o2 (o2 HX1.out (onlyA _ _)) hx2)
        clear hx2
        refine hK.out _ _ (HX2.out) (fun hHeld=>?_)
        clear hK K
        try simp only [Act.put,lsA,lsB,lsC]
        refine rd1 8 rfl (fun K hK=>?_)
        go_simp
        have HS9:=hide (strsN x2 E1 E2 HZ.out.1 HZ.out.2)
        have HX9:=hide (o2 HX2.out (onlyA x2 (.cells #[.string E1,.string E2] 9)))
        refine hK.out _ _ (HX9.out) (fun hHeld=>?_)
        clear hK K
        try simp only [Act.put,lsA,lsB,lsC]
        refine tkP 9 (.slice (some ⟨x2.heap.size,0,none⟩) 2 2) rfl ?_
        refine dnN ?_
        go_wp2_with fail
        go_meet
        exact ⟨_,rfl,HS9,hide ⟨HX9.out,HX2.out.size⟩⟩
      · go_simp
        refine hK.out _ _ (o2 (o2 (onlyA _ _) (onlyA _ _)) (Only.drew _ _)) (fun hHeld=>?_)
        clear hK K
        try simp only [Act.put,lsA,lsB,lsC]
        refine rd1 3 rfl (fun K hK=>?_)
        go_simp
        refine (HLC.out _ (W1.heap.size) (by simp <;> omega) (by simp)).mono ?_
        rintro x x1 ⟨rfl,hx1⟩
        have HX1:=hide (o2 (o2 (o2 (onlyA W1 _) (onlyA _ _)) (Only.drew _ _)) hx1)
        have HC2:Hid (W1.heap.size+1 < x1.heap.size∧x1.cell? ⟨W1.heap.size+1,0,none⟩=some (.int .i64 d)):=⟨Nat.lt_of_lt_of_le (by simp <;> omega) hx1.size,(hx1.cell (p:=⟨W1.heap.size+1,0,none⟩) (by simp <;> omega) (fun h=>h)).trans (by simp)⟩
        clear hx1
        refine hK.out _ _ (HX1.out) (fun hHeld=>?_)
        clear hK K
        try simp only [Act.put,lsA,lsB,lsC]
        refine rd1 7 rfl (fun K hK=>?_)
        go_simp
        refine (HLD.out _ (W1.heap.size+1) HC2.out.1 HC2.out.2).mono ?_
        rintro x x2 ⟨rfl,hx2⟩
        have HX2:=hide (o2 HX1.out hx2)
        clear hx2
        refine hK.out _ _ (HX2.out) (fun hHeld=>?_)
        clear hK K
        try simp only [Act.put,lsA,lsB,lsC]
        refine rd1 8 rfl (fun K hK=>?_)
        go_simp
        have HS9:=hide (strsN x2 E1 E2 HZ.out.1 HZ.out.2)
        have HX9:=hide (o2 HX2.out (onlyA x2 (.cells #[.string E1,.string E2] 9)))
        refine hK.out _ _ (HX9.out) (fun hHeld=>?_)
        clear hK K
        try simp only [Act.put,lsA,lsB,lsC]
        refine tkP 9 (.slice (some ⟨x2.heap.size,0,none⟩) 2 2) rfl ?_
        refine dnN ?_
        go_wp2_with fail
        go_meet
        exact ⟨_,rfl,HS9,hide ⟨HX9.out,HX2.out.size⟩⟩
    · go_simp
      refine hK.out _ _ (o2 (onlyA _ _) (Only.drew _ _)) (fun hHeld=>?_)
      clear hK K
      try simp only [Act.put,lsA,lsB,lsC]
      refine rd1 2 rfl (fun K hK=>?_)
      go_simp
      refine hK.out _ _ (o2 (o2 (onlyA _ _) (onlyA _ _)) (Only.drew _ _)) (fun hHeld=>?_)
      clear hK K
      try simp only [Act.put,lsA,lsB,lsC]
      refine rd1 3 rfl (fun K hK=>?_)
      go_simp
      refine (HLC.out _ (W1.heap.size+1) (by simp <;> omega) (by simp)).mono ?_
      rintro x x1 ⟨rfl,hx1⟩
      have HX1:=hide (o2 (o2 (o2 (onlyA W1 _) (onlyA _ _)) (Only.drew _ _)) hx1)
      have HC2:Hid (W1.heap.size < x1.heap.size∧x1.cell? ⟨W1.heap.size,0,none⟩=some (.int .i64 d)):=⟨Nat.lt_of_lt_of_le (by simp <;> omega) hx1.size,(hx1.cell (p:=⟨W1.heap.size,0,none⟩) (by simp <;> omega) (fun h=>h)).trans (by simp)⟩
      clear hx1
      refine hK.out _ _ (HX1.out) (fun hHeld=>?_)
      clear hK K
      try simp only [Act.put,lsA,lsB,lsC]
      refine rd1 7 rfl (fun K hK=>?_)
      go_simp
      refine (HLD.out _ (W1.heap.size) HC2.out.1 HC2.out.2).mono ?_
      rintro x x2 ⟨rfl,hx2⟩
      have HX2:=hide (o2 HX1.out hx2)
      clear hx2
      refine hK.out _ _ (HX2.out) (fun hHeld=>?_)
      clear hK K
      try simp only [Act.put,lsA,lsB,lsC]
      refine rd1 8 rfl (fun K hK=>?_)
      go_simp
      have HS9:=hide (strsN x2 E1 E2 HZ.out.1 HZ.out.2)
      have HX9:=hide (o2 HX2.out (onlyA x2 (.cells #[.string E1,.string E2] 9)))
      refine hK.out _ _ (HX9.out) (fun hHeld=>?_)
      clear hK K
      try simp only [Act.put,lsA,lsB,lsC]
      refine tkP 9 (.slice (some ⟨x2.heap.size,0,none⟩) 2 2) rfl ?_
      refine dnN ?_
      go_wp2_with fail
      go_meet
      exact ⟨_,rfl,HS9,hide ⟨HX9.out,HX2.out.size⟩⟩
    -- r3}
  case rest=>
    obtain ⟨B,rfl,HS,HO⟩:=hcut
    have HP2:=hide (HP1.out.more HO.out.1)
    obtain ⟨q0,q1,q2,q3,q4,q5,g0,g1,g2,g3,g4,g5,ql⟩:=HP2.out
    go_wp2_with fail
    refine bodyPost_ret (results_page rfl rfl (Pag.six HP2.out _ _ _ _ _ _)) rfl ?_
    have h6:=Only.six wc (w.heap.size+1) (.int .i64 0) (.int .i64 3) (.int .i64 v) (.int .i64 0) (.string ⟨#[]⟩) (.slice (some ⟨B,0,none⟩) 2 2)
    have hz:=HP1.out.lt
    have hb:=HO.out.2
    exact ⟨B,some ⟨B,0,none⟩,2,rfl,HS.out.kept h6 (fun _=>by omega),⟨(fun h=>nomatch h),by simp,by unfold maxLen; omega⟩,(o2 HO1.out HO.out.1).trans h6 (fun i hi e=>by omega),fun _=>by have:=HO1.out.size; omega⟩
end Go.Proofs.YtipkeeobmihogaaGreat
