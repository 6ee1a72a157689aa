/- Parts. -/
import Derived.Test.YtipkeeobmihogaaGreatK43
import Derived.Test.YtipkeeobmihogaaGreatK41
set_option maxRecDepth 100000
namespace Go.Proofs.YtipkeeobmihogaaGreat
open Go.RowKit
set_option maxHeartbeats 1600000 in
theorem way_bad (w:World) (a:Int) (X:Nd) (v:Nat) (e:En) (B cp:Nat) (ao:Option Addr) (hP:Nm w X B ao) (ha:0≤a∧a < 9223372036854775808) (hv:X.lv < v) :
    Calls Tryz.prog 32 #[.agg #[.int .i64 a,.int .i64 3,.int .i64 X.lv,.int .i64 X.rt,.string (hiB X.hi),.slice ao X.items.length cp],.int .i64 v,e.agg] w fun x w'=>x=.returned (.tuple #[.int .i64 0,.bool false,.int .i64 140])∧Only (fun _=>False) w w':=by
  have HX:=hide (pe_new w (.int .i64 a) (.int .i64 3) (.int .i64 X.lv) (.int .i64 X.rt) (.string (hiB X.hi)) (.slice ao X.items.length cp) e)
  have HCK:Hid (∀ W,Only (fun _=>False) w W→Calls Tryz.prog 12 #[.agg #[.int .i64 a,.int .i64 3,.int .i64 X.lv,.int .i64 X.rt,.string (hiB X.hi),.slice ao X.items.length cp]] W fun x w'=>x=.returned (.int .i64 0)∧Only (fun _=>False) W w'):=fun W ho=>check_nd W a X B cp ao (hP.more ho) ha
  have hv1:¬ (v:Int) < 0:=by omega
  have hv2:(X.lv:Int) < (v:Int):=by omega
  clear hP ha hv
  obtain ⟨L,hL⟩:=exq ((X.lv:Int))
  obtain ⟨R,hR⟩:=exq ((X.rt:Int))
  obtain ⟨h,hh⟩:=exq (hiB X.hi)
  obtain ⟨n,hn⟩:=exq (X.items.length)
  rw [hL,hR,hh,hn] at HX HCK ⊢
  rw [hL] at hv2
  clear hL hR hh hn
  unfold En.agg
  go_enter Tryz.func32,Tryz.ntmps32
  go_upto_region 1 with fail
  obtain ⟨W0,hW0⟩:=exq ((w.alloc (.cells #[.int .i64 a,.int .i64 3,.int .i64 L,.int .i64 R,.string h,.slice ao n cp] 24)).alloc (.cells #[.string e.key,.int .i64 e.page,.int .i64 e.slot] 41))
  rw [hW0] at HX ⊢
  clear hW0
  obtain ⟨p0,p1,p2,p3,p4,p5,_⟩:=HX.out.1
  go_wp2_with fail
  refine (HCK.out _ HX.out.2.2).mono ?_
  rintro x w1 ⟨rfl,ho⟩
  have HP1:=hide (HX.out.1.more ho)
  have HO1:=hide (o2 HX.out.2.2 ho)
  clear ho p0 p1 p2 p3 p4 p5 HX HCK
  obtain ⟨p0,p1,p2,p3,p4,p5,_⟩:=HP1.out
  go_wp2_with fail
  go_ret3
  exact ⟨rfl,HO1.out⟩
def lf0:Nd:=⟨0,0,noE,[]⟩
def eb:En:=⟨⟨#[98]⟩,2,0⟩
def ez:En:=⟨⟨#[122]⟩,0,0⟩
theorem eb_ok:eb.ok=true:=by decide
theorem ez_ok:ez.ok=true:=by decide
theorem lf0_ok (lo:En):lf0.Ok lo:=⟨List.Pairwise.nil,.inl rfl,(fun _ k hk=>by cases hk),(fun v=>by cases v),(fun v=>by cases v),by decide⟩
theorem lf0_gd:Gd lf0:=⟨by decide,by decide,⟨noE,lf0_ok noE⟩,fun v=>by cases v⟩
def lf1:Nd:=lf0.ins eb 0
theorem lf1_size:lf1.size≤512:=by decide
theorem lf0_not:¬ lf0.bad eb:=Nd.not_bad eb_ok (by simp [lf0,Nd.es]) (fun _=>byd_noE _) (fun v=>by cases v)
theorem lf1_gd:Gd lf1:=⟨by decide,by decide,⟨noE,(lf0_ok noE).ins eb_ok (noE_lt eb_ok) (by simp [lf0,Nd.es]) (fun _=>⟨byd_noE _,rfl⟩) (fun v=>by cases v) lf1_size⟩,fun v=>by cases v⟩
theorem lf0_need:lf0.need 1 (brd 0 eb.enc)=(0,0):=by
  have h:brd 0 eb.enc=some (eb,0):=by
    unfold brd
    rw [if_pos rfl,show decE (bl eb.enc)=some eb from decE_lay eb_ok]
    rfl
  rw [h]
  have k:lf0.wiK (some (eb,0))=0:=by
    unfold Nd.wiK
    simp only []
    rw [if_neg lf0_not,if_neg (by have:=lf1_size; unfold lf1 at this; omega)]
  unfold Nd.need
  simp only []
  rw [if_neg (by decide),k,if_neg (by decide)]
theorem lf1_way:lf1.way 0 ez=(0,true):=by decide
theorem lf1_hits:lf1.es.filter (hitB ⟨#[97]⟩ ⟨#[99]⟩)=[eb]:=by decide
set_option maxHeartbeats 6400000 in
theorem aawake_any (w:World):Calls Tryz.prog 11 #[] w fun e w'=>e=.returned (.bool true)∧Only (fun _=>False) w w':=by
  have HEC:Hid (∀ W,Calls Tryz.prog 28 #[.agg #[.string ⟨#[98]⟩,.int .i64 2,.int .i64 0]] W fun x w'=>x=.returned (.tuple #[.string eb.enc,.int .i64 0])∧Only (fun _=>False) W w'):=fun W=>by
    have h:=encode_any eb W
    rw [eb_ok] at h
    exact h
  have HLF:=hide (fun W=>leaf_any W)
  have HEN:Hid (∀ W,Calls Tryz.prog 6 #[.agg #[.int .i64 0,.int .i64 3,.int .i64 0,.int .i64 0,.string ⟨#[]⟩,.slice none 0 0],.int .i64 1,.string eb.enc,.slice none 0 0] W fun x w'=>x=.returned (.tuple #[.agg (Br.cells ⟨3,1,eb.enc,none,0,0⟩),.int .i64 0])∧Only (fun _=>False) W w'):=fun W=>by
    exact enter_in W 0 1 lf0 eb.enc 0 0 none [] 0 0 none lf0_gd (Strs.nil _ _ _) ⟨fun _=>rfl,Nat.le_refl _,Nat.zero_le _⟩ (by decide) ⟨fun h=>absurd h (by simp),by simp⟩ (Nat.le_refl _) (Nat.zero_le _) lf0_need rfl
  have HCH:Hid (∀ W,Calls Tryz.prog 30 #[.agg #[.int .i64 0,.int .i64 3,.int .i64 0,.int .i64 0,.string ⟨#[]⟩,.slice none 0 0],.agg (Br.cells ⟨3,1,eb.enc,none,0,0⟩)] W fun x w'=>Res W w' x (lf1.pg 0) 0):=fun W=>by
    exact changed_leaf W 1 lf0 eb 0 0 0 none lf0_gd (Strs.nil _ _ _) ⟨fun _=>rfl,Nat.le_refl _,Nat.zero_le _⟩ rfl lf0_not lf1_size
  have HHT:Hid (∀ (W:World) (B cp:Nat) (ao:Option Addr),Strs W B ao lf1.items→Calls Tryz.prog 31 #[.agg #[.int .i64 0,.int .i64 3,.int .i64 0,.int .i64 0,.string ⟨#[]⟩,.slice ao 1 cp],.string ⟨#[97]⟩,.string ⟨#[99]⟩] W fun x w'=>∃ A C,x=.returned (.tuple #[.slice A 1 C,.bool false,.int .i64 0])∧Ets w' W.heap.size (.slice A 1 C) [eb]∧Only (fun _=>False) W w'):=fun W B cp ao hS=>by
    have h:=hits_nd W 0 lf1 ⟨#[97]⟩ ⟨#[99]⟩ B cp ao (lf1_gd.nm hS) (by decide) rfl
    unfold HtR at h
    rw [lf1_hits] at h
    exact h
  have HWY:Hid (∀ (W:World) (B cp:Nat) (ao:Option Addr),Strs W B ao lf1.items→Calls Tryz.prog 32 #[.agg #[.int .i64 0,.int .i64 3,.int .i64 0,.int .i64 0,.string ⟨#[]⟩,.slice ao 1 cp],.int .i64 0,.agg #[.string ⟨#[122]⟩,.int .i64 0,.int .i64 0]] W fun x w'=>x=.returned (.tuple #[.int .i64 0,.bool true,.int .i64 0])∧Only (fun _=>False) W w'):=fun W B cp ao hS=>by
    have h:=way_nd W 0 lf1 0 ez B cp ao (lf1_gd.nm hS) (by decide) ez_ok (Nat.le_refl _)
    rw [lf1_way] at h
    exact h
  have HWB:Hid (∀ (W:World) (B cp:Nat) (ao:Option Addr),Strs W B ao lf1.items→Calls Tryz.prog 32 #[.agg #[.int .i64 0,.int .i64 3,.int .i64 0,.int .i64 0,.string ⟨#[]⟩,.slice ao 1 cp],.int .i64 1,.agg #[.string ⟨#[122]⟩,.int .i64 0,.int .i64 0]] W fun x w'=>x=.returned (.tuple #[.int .i64 0,.bool false,.int .i64 140])∧Only (fun _=>False) W w'):=fun W B cp ao hS=>by
    exact way_bad W 0 lf1 1 ez B cp ao (lf1_gd.nm hS) (by decide) (by decide)
  obtain ⟨D,hD⟩:=exq (eb.enc)
  rw [hD] at HEC HEN HCH
  clear hD
  obtain ⟨Q,hQ⟩:=exq (lf1.pg 0)
  rw [hQ] at HCH
  have HQ:=hide hQ
  clear hQ
  go_enter Tryz.func11,Tryz.ntmps11
  go_wp2_with fail
  refine (HEC.out _).mono ?_
  rintro x w1 ⟨rfl,ho⟩
  have HO1:=hide ho
  clear ho
  go_wp2_with fail
  refine (HLF.out _).mono ?_
  rintro x w2 ⟨rfl,ho⟩
  have HO2:=hide (o2 HO1.out ho)
  clear ho
  go_wp2_with fail
  refine (HEN.out _).mono ?_
  rintro x w3 ⟨rfl,ho⟩
  have HO3:=hide (o2 HO2.out ho)
  clear ho HO1 HO2
  have HNEW:=hide (Rg.new w3 Br.none.cells 36)
  have HAL:=hide (onlyA w3 (.cells Br.none.cells 36))
  go_upto_region 3 with (refine wpList_put_br rfl (.tmp 3) (.tmp 25) rfl w3.heap.size rfl Br.none.cl rfl ⟨3,1,D,none,0,0⟩ rfl HNEW.out ?_; intro W9 HW9; go_frame)
  have HO9:Hid (Only (fun _=>False) w W9):=(o2 HO3.out HAL.out).trans HW9.out.only (fun q hq e=>by have:=HO3.out.size; omega)
  have HRC:=hide HW9.out.at_
  obtain ⟨rb,hrb⟩:=exq (w3.heap.size)
  rw [hrb] at HRC ⊢
  clear hrb HNEW HAL HW9
  go_cut [5,6] (fun x y wx=>∃ b3 ao5 cp5,x=.pointer (some ⟨b3,0,none⟩)∧y=.int .i64 0∧Hid (Pz3 W9 wx b3 ⟨Q,ao5,cp5⟩))
  case first=>
    -- {r3
    refine wp_region_noPanic ?_
    refine wp_region_held_drew (S:=fun W=>Only (fun _=>False) W9 W) (by kernel_rfl) (Only.drew _ _) (fun hHeld=>?_)
    refine tkQ 1 (.agg #[.int .i64 0,.int .i64 0,.int .i64 0,.int .u8 3,.int .i64 0,.int .i64 1,.int .i64 0,.int .i64 0,.int .i64 0,.int .i64 0,.string D,.slice none 0 0,.slice none 0 0,.slice none 0 0,.slice none 0 0,.slice none 0 0]) rfl (yieldsIf_load_br (r:=⟨3,1,D,none,0,0⟩) (by rfl) _ rfl rfl (fun W hW=>HRC.out.more hW)) ?_
    refine wpAnyH_ready (rs:=[0,6]) (by kernel_rfl) (by simp) ?_
    refine arC rfl (fun K hK=>?_) (arC rfl (fun K hK=>?_) (AllReadyH.nil))
    · go_simp
      refine (HLF.out _).mono ?_
      rintro x y1 ⟨rfl,hoy⟩
      have HY0:=hide (o2 hHeld hoy)
      clear hoy
      refine hK.out _ _ (HY0.out) (fun hHeld=>?_)
      clear hK K
      try simp only [Act.put,lsA,lsB,lsC]
      refine wpAnyH_ready (rs:=[2,6]) (by kernel_rfl) (by simp) ?_
      refine arC rfl (fun K hK=>?_) (arC rfl (fun K hK=>?_) (AllReadyH.nil))
      · go_simp
        refine (HCH.out _).mono ?_
        rintro x x1 ⟨B5,ao5,cp5,rfl,hS5,hF5,ho5,hB5⟩
        have HX1:=hide (o2 hHeld ho5)
        have HA3:Hid (At x1 (fun k=>W9.heap.size≤k) ⟨Q,ao5,cp5⟩):=⟨⟨B5,hS5,fun h0=>Nat.le_trans hHeld.size (hB5 h0)⟩,hF5⟩
        clear hS5 hF5 ho5 hB5
        refine hK.out _ _ (HX1.out) (fun hHeld=>?_)
        clear hK K
        try simp only [Act.put,lsA,lsB,lsC]
        refine tkP 3 (.tuple #[.agg #[.int .i64 Q.lsn,.int .i64 Q.kind,.int .i64 Q.level,.int .i64 Q.right,.string Q.high,.slice ao5 Q.items.length cp5],.int .i64 0]) rfl ?_
        refine tkP 4 (.agg #[.int .i64 Q.lsn,.int .i64 Q.kind,.int .i64 Q.level,.int .i64 Q.right,.string Q.high,.slice ao5 Q.items.length cp5]) rfl ?_
        refine tkP 5 (.int .i64 0) rfl ?_
        refine rd1 6 rfl (fun K hK=>?_)
        go_simp
        refine hK.out _ _ (o2 HX1.out (onlyA _ _)) (fun hHeld=>?_)
        clear hK K
        try simp only [Act.put,lsA,lsB,lsC]
        refine rd1 7 rfl (fun K hK=>?_)
        go_simp
        have HNV:=hide (Pz3.after (z:=⟨Q,ao5,cp5⟩) HX1.out HA3.out)
        refine hK.out _ _ (HNV.out.only) (fun hHeld=>?_)
        clear hK K
        try simp only [Act.put,lsA,lsB,lsC]
        refine tkP 8 (.int .i64 0) rfl ?_
        refine dnN ?_
        go_wp2_with fail
        go_meet
        exact ⟨_,ao5,cp5,rfl,rfl,HNV⟩
      · go_simp
        have HZA:Hid (Pag (y1.alloc (.cells #[.int .i64 0,.int .i64 0,.int .i64 0,.int .i64 0,.string ⟨#[]⟩,.slice none 0 0] 24)) y1.heap.size (.int .i64 0) (.int .i64 0) (.int .i64 0) (.int .i64 0) (.string ⟨#[]⟩) (.slice none 0 0)):=Pag.new y1 _ _ _ _ _ _
        have HOA:Hid (Only (fun _=>False) W9 (y1.alloc (.cells #[.int .i64 0,.int .i64 0,.int .i64 0,.int .i64 0,.string ⟨#[]⟩,.slice none 0 0] 24))):=o2 HY0.out (onlyA _ _)
        refine hK.out _ _ (HOA.out) (fun hHeld=>?_)
        clear hK K
        try simp only [Act.put,lsA,lsB,lsC]
        refine rd1 2 rfl (fun K hK=>?_)
        go_simp
        have HZW:=hide HZA.out
        have HOW9:=hide HOA.out
        refine (HCH.out _).mono ?_
        rintro x x1 ⟨B5,ao5,cp5,rfl,hS5,hF5,ho5,hB5⟩
        have HX1:=hide (o2 hHeld ho5)
        have HA3:Hid (At x1 (fun k=>(y1.alloc (.cells #[.int .i64 0,.int .i64 0,.int .i64 0,.int .i64 0,.string ⟨#[]⟩,.slice none 0 0] 24)).heap.size≤k) ⟨Q,ao5,cp5⟩):=⟨⟨B5,hS5,hB5⟩,hF5⟩
        have HY1:=hide ho5
        have HZ7:=hide (HZW.out.more ho5)
        obtain ⟨q0,q1,q2,q3,q4,q5,g0,g1,g2,g3,g4,g5,ql⟩:=HZ7.out
        clear hS5 hF5 ho5 hB5
        refine hK.out _ _ (HX1.out) (fun hHeld=>?_)
        clear hK K
        try simp only [Act.put,lsA,lsB,lsC]
        refine tkP 3 (.tuple #[.agg #[.int .i64 Q.lsn,.int .i64 Q.kind,.int .i64 Q.level,.int .i64 Q.right,.string Q.high,.slice ao5 Q.items.length cp5],.int .i64 0]) rfl ?_
        refine tkP 4 (.agg #[.int .i64 Q.lsn,.int .i64 Q.kind,.int .i64 Q.level,.int .i64 Q.right,.string Q.high,.slice ao5 Q.items.length cp5]) rfl ?_
        refine tkP 5 (.int .i64 0) rfl ?_
        refine rd1 7 rfl (fun K hK=>?_)
        go_simp
        have HNV:=hide (Pz3.before (z:=⟨Q,ao5,cp5⟩) HY0.out.size HZW.out.lt HOW9.out HY1.out HZ7.out HA3.out)
        refine hK.out _ _ (HNV.out.only) (fun hHeld=>?_)
        clear hK K
        try simp only [Act.put,lsA,lsB,lsC]
        refine tkP 8 (.int .i64 0) rfl ?_
        refine dnN ?_
        go_wp2_with fail
        go_meet
        exact ⟨_,ao5,cp5,rfl,rfl,HNV⟩
    · go_simp
      have HZA:Hid (Pag ((W9.alloc (.cells #[.int .i64 0,.int .i64 0,.int .i64 0,.int .i64 0,.string ⟨#[]⟩,.slice none 0 0] 24)).drew) W9.heap.size (.int .i64 0) (.int .i64 0) (.int .i64 0) (.int .i64 0) (.string ⟨#[]⟩) (.slice none 0 0)):=(Pag.new W9 _ _ _ _ _ _).more (Only.drew _ _)
      have HOA:Hid (Only (fun _=>False) W9 ((W9.alloc (.cells #[.int .i64 0,.int .i64 0,.int .i64 0,.int .i64 0,.string ⟨#[]⟩,.slice none 0 0] 24)).drew)):=o2 (onlyA _ _) (Only.drew _ _)
      refine hK.out _ _ (HOA.out) (fun hHeld=>?_)
      clear hK K
      try simp only [Act.put,lsA,lsB,lsC]
      refine rd1 0 rfl (fun K hK=>?_)
      go_simp
      refine (HLF.out _).mono ?_
      rintro x y1 ⟨rfl,hoy⟩
      have HY0:=hide (o2 hHeld hoy)
      have HZ6:=hide (HZA.out.more hoy)
      have HOB:=hide hoy
      clear hoy
      refine hK.out _ _ (HY0.out) (fun hHeld=>?_)
      clear hK K
      try simp only [Act.put,lsA,lsB,lsC]
      refine rd1 2 rfl (fun K hK=>?_)
      go_simp
      have HZW:=hide HZ6.out
      have HOW9:=hide HY0.out
      refine (HCH.out _).mono ?_
      rintro x x1 ⟨B5,ao5,cp5,rfl,hS5,hF5,ho5,hB5⟩
      have HX1:=hide (o2 hHeld ho5)
      have HA3:Hid (At x1 (fun k=>y1.heap.size≤k) ⟨Q,ao5,cp5⟩):=⟨⟨B5,hS5,hB5⟩,hF5⟩
      have HY1:=hide ho5
      have HZ7:=hide (HZW.out.more ho5)
      obtain ⟨q0,q1,q2,q3,q4,q5,g0,g1,g2,g3,g4,g5,ql⟩:=HZ7.out
      clear hS5 hF5 ho5 hB5
      refine hK.out _ _ (HX1.out) (fun hHeld=>?_)
      clear hK K
      try simp only [Act.put,lsA,lsB,lsC]
      refine tkP 3 (.tuple #[.agg #[.int .i64 Q.lsn,.int .i64 Q.kind,.int .i64 Q.level,.int .i64 Q.right,.string Q.high,.slice ao5 Q.items.length cp5],.int .i64 0]) rfl ?_
      refine tkP 4 (.agg #[.int .i64 Q.lsn,.int .i64 Q.kind,.int .i64 Q.level,.int .i64 Q.right,.string Q.high,.slice ao5 Q.items.length cp5]) rfl ?_
      refine tkP 5 (.int .i64 0) rfl ?_
      refine rd1 7 rfl (fun K hK=>?_)
      go_simp
      have HNV:=hide (Pz3.before (z:=⟨Q,ao5,cp5⟩) (Nat.le_refl _) HZW.out.lt HOW9.out HY1.out HZ7.out HA3.out)
      refine hK.out _ _ (HNV.out.only) (fun hHeld=>?_)
      clear hK K
      try simp only [Act.put,lsA,lsB,lsC]
      refine tkP 8 (.int .i64 0) rfl ?_
      refine dnN ?_
      go_wp2_with fail
      go_meet
      exact ⟨_,ao5,cp5,rfl,rfl,HNV⟩
    -- r3}
  case rest=>
    obtain ⟨b3,ao5,cp5,rfl,rfl,HZ3⟩:=hcut
    have HOC:=hide (o2 HO9.out HZ3.out.only)
    obtain ⟨⟨B5,hS5,_⟩,_⟩:=HZ3.out.at_
    have hpg:=HZ3.out.pag
    rw [← HQ.out] at hS5 hpg
    have HS5:Hid (Strs wc B5 ao5 lf1.items):=hS5
    have HPG:Hid (Pag wc b3 (.int .i64 0) (.int .i64 3) (.int .i64 0) (.int .i64 0) (.string ⟨#[]⟩) (.slice ao5 1 cp5)):=hpg
    clear hS5 hpg HZ3 HRC HO9 HEC HLF HEN HCH
    obtain ⟨p0,p1,p2,p3,p4,p5,_⟩:=HPG.out
    go_wp2_with fail
    refine (HHT.out _ _ _ _ HS5.out).mono ?_
    rintro x w5 ⟨A,C,rfl,hE,ho⟩
    have HE5:=hide hE
    have HS6:=hide (HS5.out.more ho)
    have HP6:=hide (HPG.out.more ho)
    have HO6:=hide (o2 HOC.out ho)
    clear ho hE p0 p1 p2 p3 p4 p5 HPG HS5 HHT
    obtain ⟨p0,p1,p2,p3,p4,p5,_⟩:=HP6.out
    go_wp2_with fail
    refine (HWY.out _ _ _ _ HS6.out).mono ?_
    rintro x w7 ⟨rfl,ho⟩
    have HE7:=hide (HE5.out.more ho)
    have HS7:=hide (HS6.out.more ho)
    have HP7:=hide (HP6.out.more ho)
    have HO7:=hide (o2 HO6.out ho)
    clear ho p0 p1 p2 p3 p4 p5 HE5 HS6 HP6 HWY
    obtain ⟨p0,p1,p2,p3,p4,p5,_⟩:=HP7.out
    go_wp2_with fail
    refine (HWB.out _ _ _ _ HS7.out).mono ?_
    rintro x w8 ⟨rfl,ho⟩
    have HE8:=hide (HE7.out.more ho)
    have HO8:=hide (o2 HO7.out ho)
    clear ho p0 p1 p2 p3 p4 p5
    obtain ⟨Be,hels,_⟩:=HE8.out.elsOf
    obtain ⟨oe,rfl,heb⟩:=hels.of 0 (by decide)
    have d1:w8.cell? ⟨Be,oe+1,none⟩=some (.int .i64 2):=by
      have h:=heb.c1
      rw [Nat.zero_mul,Nat.add_zero] at h
      exact h
    clear hels heb
    go_wp2_with fail
    go_ret
    exact ⟨rfl,HO8.out⟩
end Go.Proofs.YtipkeeobmihogaaGreat
