/- For any page, any number, any item and any new pages the statement BlinkEnters returns true: how many pages an item needs, which record lays it and what has to be told above is as the document says; no condition. -/
import Derived.Test.YtipkeeobmihogaaGreatK51
import Derived.Test.YtipkeeobmihogaaGreatK52
import Derived.Test.YtipkeeobmihogaaGreatK53
import Derived.Test.YtipkeeobmihogaaGreatK54
import Derived.Test.YtipkeeobmihogaaGreatK55
import Derived.Test.YtipkeeobmihogaaGreatK56
set_option maxRecDepth 100000
namespace Go.Proofs.YtipkeeobmihogaaGreat
open Go.RowKit
theorem Its.ns {w:World} {B:Nat} {ao:Option Addr} {l:List Int} (h:Its w B ao l) (hl:l.length≤17592186044416):Ns w B ao l:=⟨h.at_,by omega⟩
theorem two_le {zs:List Int} {N:Int} (hl:(zs.length:Int)=N) (h2:N≤2):zs=[]∨(∃ I,zs=[I])∨∃ I J,zs=[I,J]:=by
  match zs,hl with
  | [],_=>exact .inl rfl
  | [I],_=>exact .inr (.inl ⟨I,rfl⟩)
  | [I,J],_=>exact .inr (.inr ⟨I,J,rfl⟩)
  | _ :: _ :: _ :: t,h=>simp at h; omega
theorem frs_rtp {zs:List Int} {N:Int} (hl:(zs.length:Int)=N) (h2:N≤2):frs zs=true ↔ RtP zs N:=by
  unfold frs RtP
  rw [decide_eq_true_iff]
  rcases two_le hl h2 with rfl | ⟨I,rfl⟩ | ⟨I,J,rfl⟩
  · exact ⟨fun _=>⟨hl,fun j h=>absurd h (by simp),fun j h=>absurd h (by simp)⟩,fun _ k h=>absurd h (by simp)⟩
  · refine ⟨fun q=>⟨hl,fun j h=>(q j h).1,fun j h=>absurd h (by simp)⟩,fun q k h=>⟨q.2.1 k h,?_⟩⟩
    match k,h with
    | 0,_=>simp
  · refine ⟨fun q=>⟨hl,fun j h=>(q j h).1,fun j h=>?_⟩,fun q k h=>⟨q.2.1 k h,?_⟩⟩
    · match j,h with
      | 0,_=>
        have:=(q 1 (by simp)).2
        simpa using this
    · match k,h with
      | 0,_=>simp
      | 1,_=>
        have:=q.2.2 0 (by simp)
        simpa using this
theorem Nd.need_le {X:Nd} {page N:Int} {o:Option (En × Int)} (h:X.need page o=(N,0)):N≤2:=by
  by_cases h0:N=0
  · omega
  · obtain ⟨e,k,_,_,_,_,hN⟩:=X.need_more h h0
    rw [hN]
    split <;> omega
theorem hiB_okA {f:En} (h:f.ok=true):hiB f=f.enc:=by
  unfold hiB
  rw [if_neg]
  rintro rfl
  exact absurd h (by decide)
set_option maxHeartbeats 3200000 in
theorem enters_law (w:World) (a k v r page:Int) (h s:ByteArray) (B cp:Nat) (ao:Option Addr) (l:List ByteArray) (zs:List Int) (fb fc:Nat) (fa:Option Addr)
    (hS:Strs w B ao l) (hF:Fit ao l.length cp) (hl:l.length≤8796093021952) (hh:h.size≤140737488355328) (ha:a < 9223372036854775808) (hs:s.size≤140737488355328)
    (hz:Its w fb fa zs) (hzl:zs.length≤17592186044416) (hzf:fa=none→fc=0) :
    Calls Tryz.prog 3 #[.agg #[.int .i64 a,.int .i64 k,.int .i64 v,.int .i64 r,.string h,.slice ao l.length cp],.int .i64 page,.agg #[.string s,.slice fa zs.length fc]] w fun x w'=>x=.returned (.bool true)∧Only (fun _=>False) w w':=by
  cases hb:ckB a k v r h l with
  | false=>
    exact walk_none w a k v r page h s ao l.length cp zs fb fc fa 0 140 140 0 0 ⟨#[]⟩ (by decide) (by decide) hz hzl hzf
      (fun W o=>bneed_no W a k v r page h s B cp ao l (hS.more o) hl hh ha hb)
      (fun W o=>rbneed_no W a k v r page h s B cp ao l (hS.more o) hh ha hb)
      (fun W fb fa fc o z l1 l2=>benter_no W a k v r page h s B cp ao l (hS.more o) hl hh ha hb zs.length fc fa)
      (fun W o z=>rbenter_no W a k v r page h s B cp ao l (hS.more o) hh ha hb zs.length fc fa)
  | true=>
    obtain ⟨ha0,X,hG,rfl,rfl,rfl,rfl,rfl⟩:=ckB_node hb
    obtain ⟨N,hN⟩:=exq ((X.need page (brd X.lv s)).1)
    obtain ⟨E,hE⟩:=exq ((X.need page (brd X.lv s)).2)
    have hNE:X.need page (brd X.lv s)=(N,E):=by rw [← hN,← hE]
    clear hb
    have hN1:∀ W,Only (fun _=>False) w W→Calls Tryz.prog 4 #[.agg #[.int .i64 a,.int .i64 3,.int .i64 X.lv,.int .i64 X.rt,.string (hiB X.hi),.slice ao X.items.length cp],.int .i64 page,.string s] W fun x w'=>x=.returned (.tuple #[.int .i64 N,.int .i64 E])∧Only (fun _=>False) W w':=fun W o=>by
      have q:=need_nd W a page X s B cp ao (hG.nm (hS.more o)) hF ⟨ha0,ha⟩
      rw [hNE] at q
      exact q
    have hN2:∀ W,Only (fun _=>False) w W→Calls Tryz.prog 5 #[.agg #[.int .i64 a,.int .i64 3,.int .i64 X.lv,.int .i64 X.rt,.string (hiB X.hi),.slice ao X.items.length cp],.int .i64 page,.string s] W fun x w'=>x=.returned (.tuple #[.int .i64 N,.int .i64 E])∧Only (fun _=>False) W w':=fun W o=>by
      have q:=rbneed_nd W a page X s B cp ao (hG.nm (hS.more o)) ⟨ha0,ha⟩ hF hs
      rw [hNE] at q
      exact q
    clear hN hE
    by_cases hE0:E=0
    case neg=>
      exact walk_none w a 3 X.lv X.rt page (hiB X.hi) s ao X.items.length cp zs fb fc fa N E E 0 0 ⟨#[]⟩ (by decide) (by decide) hz hzl hzf hN1 hN2
        (fun W fb fa fc o z l1 l2=>enter_err W a page X s B cp ao zs fc fa hG (hS.more o) hF ⟨ha0,ha⟩ N E hNE hE0)
        (fun W o z=>rbenter_bad W a page X s B cp ao (hG.nm (hS.more o)) ⟨ha0,ha⟩ hF hs zs.length fc fa N E hNE hE0)
    subst hE0
    have h2:=X.need_le hNE
    by_cases hR:RtP zs N
    case neg=>
      have hA:¬ (zs.length:Int)=N∨frs zs=false:=by
        by_cases q:(zs.length:Int)=N
        · right
          cases hf:frs zs with
          | false=>rfl
          | true=>exact absurd ((frs_rtp q h2).1 hf) hR
        · exact .inl q
      exact walk_none w a 3 X.lv X.rt page (hiB X.hi) s ao X.items.length cp zs fb fc fa N 0 1 0 0 ⟨#[]⟩ (by decide) (by decide) hz hzl hzf hN1 hN2
        (fun W fb fa fc o z l1 l2=>enter_arg W a page X s B cp ao zs fb fc fa hG (hS.more o) hF ⟨ha0,ha⟩ (z.ns hzl) l1 l2 N hNE hA)
        (fun W o z=>(rbenter_few W a page X s B cp ao (hG.nm (hS.more o)) ⟨ha0,ha⟩ hF hs zs fb fc fa (z.ns hzl) z.lt N hNE (.inl hR)).mono (fun x w' q=>⟨q.1.1 hR,q.2⟩))
    have hfr:=(frs_rtp hR.1 h2).2 hR
    by_cases h0:N=0
    case pos=>
      subst h0
      have hzs:zs=[]:=List.eq_nil_of_length_eq_zero (by have:=hR.1; omega)
      exact walk_none w a 3 X.lv X.rt page (hiB X.hi) s ao X.items.length cp zs fb fc fa 0 0 0 3 page s (by decide) hs hz hzl hzf hN1 hN2
        (fun W fb fa fc o z l1 l2=>enter_in W a page X s B cp ao zs fb fc fa hG (hS.more o) hF ⟨ha0,ha⟩ (z.ns hzl) l1 l2 hNE hzs)
        (fun W o z=>(rbenter_few W a page X s B cp ao (hG.nm (hS.more o)) ⟨ha0,ha⟩ hF hs zs fb fc fa (z.ns hzl) z.lt 0 hNE (.inr rfl)).mono (fun x w' q=>⟨q.1.2 hR,q.2⟩))
    obtain ⟨e,c,hsb,_,hbad,hf,hNp⟩:=X.need_more hNE h0
    obtain ⟨lo,hok⟩:=hG.ok
    have hc9:0 < X.lv→okC c=true:=fun v=>by
      unfold brd at hsb
      rw [if_neg (by omega)] at hsb
      exact (decS_some hsb).2.1
    have hn2:2≤X.ks.length:=by have:=(hok.two hG.kok hbad hc9 hf).1; omega
    have hbo:=(hok.bord hn2).1
    have hbe:=hiB_okA hbo
    have hbz:X.bord.enc.size≤140737488355328:=by have:=enc_size hbo; omega
    have hXz:(hiB X.hi).size≤140737488355328:=hh
    have hlA:∀ j,(hiB (X.nl e c j).hi).size≤140737488355328:=fun j=>by rw [nl_hi,hbe]; exact hbz
    have hrB:(hiB (X.nr e c).hi).size≤140737488355328:=by
      have:(X.nr e c).hi=X.hi:=by unfold Nd.nr; split <;> rfl
      rw [this]; exact hXz
    have hoC:∀ i j,(hiB (X.over i j).hi).size≤140737488355328:=fun i j=>by
      have:(X.over i j).hi=noE:=rfl
      rw [this]; decide
    by_cases hp:page=1
    case neg=>
      rw [if_neg hp] at hNp
      subst hNp
      obtain ⟨J,rfl⟩:∃ J,zs=[J]:=by
        rcases two_le hR.1 h2 with rfl | q | ⟨I,J,rfl⟩
        · exact absurd hR.1 (by decide)
        · exact q
        · exact absurd hR.1 (by simp)
      cases hJ:okC J with
      | false=>
        refine walk_none w a 3 X.lv X.rt page (hiB X.hi) s ao X.items.length cp [J] fb fc fa 1 0 140 0 0 ⟨#[]⟩ (by decide) (by decide) hz hzl hzf hN1 hN2 ?_ ?_
        · intro W fb fa fc o z l1 l2
          obtain ⟨fo,rfl,hcell⟩:=z.at_ (by simp)
          have hc0:=hcell 0 (by simp)
          exact enter_sp W a page X s B cp ao [J] fb fc _ hG (hS.more o) hF ⟨ha0,ha⟩ (z.ns hzl) l1 l2 1 hNE h0 hR.1 hfr
            (fun W' o'=>bsplit_no1 W' a page X J B cp fb fo fc ao (hG.nm ((hS.more o).more o')) hJ hn2 ((o'.cell (p:=⟨fb,fo,none⟩) (z.lt (by simp)) (fun q=>q)).trans hc0))
        · intro W o z
          obtain ⟨fo,rfl,hcell⟩:=z.at_ (by simp)
          exact rbenter_sp1 W a page X s B cp ao hG (hS.more o) ⟨ha0,ha⟩ hF hs J fb fc fo (z.ns hzl) hNE hR hJ hn2
      | true=>
        obtain ⟨j,rfl⟩:∃ j:Nat,J=(j:Int):=⟨J.toNat,by have:=okC_iff.1 hJ; omega⟩
        refine walk_two w a 3 X.lv X.rt page (hiB X.hi) s ao X.items.length cp [(j:Int)] fb fc fa 1 0 page j (X.nl e c j) (X.nr e c) X.bord hz hzl hzf (hlA j) hrB (by rw [nl_hi,hbe]) hbo hN1 hN2 ?_ ?_
        · intro W fb fa fc o z l1 l2
          exact (enter_one W a page X s B cp ao [(j:Int)] fb fc fa hG (hS.more o) hF ⟨ha0,ha⟩ (z.ns hzl) l1 l2 j e c hNE rfl hJ hfr hsb hbad hf).mono (fun x w' q=>q.ea)
        · intro W o z
          obtain ⟨fo,rfl,hcell⟩:=z.at_ (by simp)
          cases hy:byd X.bord e with
          | false=>exact rbenter_one_false W a page X s B cp ao hG (hS.more o) ⟨ha0,ha⟩ hF hs j fb fc fo (z.ns hzl) hNE hR e c hsb hbad hf hJ hy
          | true=>exact rbenter_one_true W a page X s B cp ao hG (hS.more o) ⟨ha0,ha⟩ hF hs j fb fc fo (z.ns hzl) hNE hR e c hsb hbad hf hJ hy
    case pos=>
      rw [if_pos hp] at hNp
      subst hNp
      obtain ⟨I,J,rfl⟩:∃ I J,zs=[I,J]:=by
        rcases two_le hR.1 h2 with rfl | ⟨I,rfl⟩ | q
        · exact absurd hR.1 (by decide)
        · exact absurd hR.1 (by simp)
        · exact q
      cases hJ:okC J with
      | false=>
        refine walk_none w a 3 X.lv X.rt page (hiB X.hi) s ao X.items.length cp [I,J] fb fc fa 2 0 140 0 0 ⟨#[]⟩ (by decide) (by decide) hz hzl hzf hN1 hN2 ?_ ?_
        · intro W fb fa fc o z l1 l2
          obtain ⟨fo,rfl,hcell⟩:=z.at_ (by simp)
          have hc1:=hcell 1 (by simp)
          exact enter_sp W a page X s B cp ao [I,J] fb fc _ hG (hS.more o) hF ⟨ha0,ha⟩ (z.ns hzl) l1 l2 2 hNE h0 hR.1 hfr
            (fun W' o'=>bsplit_no2 W' a page X J B cp fb fo fc ao (hG.nm ((hS.more o).more o')) hJ hn2 ((o'.cell (p:=⟨fb,fo+1,none⟩) (z.lt (by simp)) (fun q=>q)).trans hc1))
        · intro W o z
          obtain ⟨fo,rfl,hcell⟩:=z.at_ (by simp)
          exact rbenter_sp2 W a page X s B cp ao hG (hS.more o) ⟨ha0,ha⟩ hF hs I J fb fc fo (z.ns hzl) hNE hR hJ hn2
      | true=>
        by_cases hv:X.lv+1≤255∧okC I=true
        case neg=>
          have hv':255 < (X.lv:Int)+1∨((X.lv:Int)+1≤255∧okC I=false):=by
            by_cases q:X.lv+1≤255
            · refine .inr ⟨by omega,?_⟩
              cases hI:okC I with
              | false=>rfl
              | true=>exact absurd ⟨q,hI⟩ hv
            · exact .inl (by omega)
          obtain ⟨j,rfl⟩:∃ j:Nat,J=(j:Int):=⟨J.toNat,by have:=okC_iff.1 hJ; omega⟩
          refine walk_none w a 3 X.lv X.rt page (hiB X.hi) s ao X.items.length cp [I,(j:Int)] fb fc fa 2 0 140 0 0 ⟨#[]⟩ (by decide) (by decide) hz hzl hzf hN1 hN2 ?_ ?_
          · intro W fb fa fc o z l1 l2
            obtain ⟨fo,rfl,hcell⟩:=z.at_ (by simp)
            have hc0:=hcell 0 (by simp)
            have hc1:=hcell 1 (by simp)
            exact enter_sp W a page X s B cp ao [I,(j:Int)] fb fc _ hG (hS.more o) hF ⟨ha0,ha⟩ (z.ns hzl) l1 l2 2 hNE h0 hR.1 hfr
              (fun W' o'=>bsplit_root W' a page X I j B cp fb fo fc ao (hG.nm ((hS.more o).more o')) hF hv' hJ hn2 ((o'.cell (p:=⟨fb,fo,none⟩) (z.lt (by simp)) (fun q=>q)).trans hc0) ((o'.cell (p:=⟨fb,fo+1,none⟩) (z.lt (by simp)) (fun q=>q)).trans hc1))
          · intro W o z
            obtain ⟨fo,rfl,hcell⟩:=z.at_ (by simp)
            cases hy:byd X.bord e with
            | false=>exact rbenter_root_false W a page X s B cp ao hG (hS.more o) ⟨ha0,ha⟩ hF hs I j fb fc fo (z.ns hzl) hNE hR e c hsb hbad hf hJ hy hv'
            | true=>exact rbenter_root_true W a page X s B cp ao hG (hS.more o) ⟨ha0,ha⟩ hF hs I j fb fc fo (z.ns hzl) hNE hR e c hsb hbad hf hJ hy hv'
        case pos=>
          obtain ⟨hv1,hI⟩:=hv
          obtain ⟨j,rfl⟩:∃ j:Nat,J=(j:Int):=⟨J.toNat,by have:=okC_iff.1 hJ; omega⟩
          obtain ⟨i,rfl⟩:∃ i:Nat,I=(i:Int):=⟨I.toNat,by have:=okC_iff.1 hI; omega⟩
          refine walk_three w a 3 X.lv X.rt page (hiB X.hi) s ao X.items.length cp [(i:Int),(j:Int)] fb fc fa 2 0 i j page (X.nl e c j) (X.nr e c) (X.over i j) hz hzl hzf (hlA j) hrB (hoC i j) hN1 hN2 ?_ ?_
          · intro W fb fa fc o z l1 l2
            subst hp
            exact (enter_two W a 1 X s B cp ao [(i:Int),(j:Int)] fb fc fa hG (hS.more o) hF ⟨ha0,ha⟩ (z.ns hzl) l1 l2 i j e c hNE rfl hI hJ hfr hv1 hsb hbad hf).mono (fun x w' q=>q.ea)
          · intro W o z
            obtain ⟨fo,rfl,hcell⟩:=z.at_ (by simp)
            cases hy:byd X.bord e with
            | false=>exact rbenter_two_false W a page X s B cp ao hG (hS.more o) ⟨ha0,ha⟩ hF hs i j fb fc fo (z.ns hzl) hNE hR e c hsb hbad hf hJ hy hv1 hI
            | true=>exact rbenter_two_true W a page X s B cp ao hG (hS.more o) ⟨ha0,ha⟩ hF hs i j fb fc fo (z.ns hzl) hNE hR e c hsb hbad hf hJ hy hv1 hI
end Go.Proofs.YtipkeeobmihogaaGreat
namespace Go.Proofs.YtipkeeobmihogaaGreat.blinkEnters
open Go.ChangeShapes Go.WideShapes Go.ChangeAt Go.RowKit
theorem own:ownKnob Tryz.prog.godebug=none:=by kernel_rfl
theorem lifted (os:Os) (started:os.Started) (H:Type) (enc:TypeId × Value→H) :
    ReturnsInHanded {} Tryz.checked os 3 .any (Rows.blinkEntersSpec.pre6 enc Tryz.prog Tryz.f3 Rows.blinkEntersRow.domain false) (Rows.blinkEntersSpec.post enc Tryz.prog Tryz.f3 false true false false):=by
  refine returnsInHanded_of_change_sized (C:=Tryz.checked) own started (by kernel_rfl) Tryz.func3
    (ChangeSpec.witness6 (enc:=enc) (C:=Tryz.checked) false ⟨#[],#[.agg #[.int .i64 0,.int .i64 0,.int .i64 0,.int .i64 0,.string ByteArray.empty,.slice none 0 0],.int .i64 0,.agg #[.string ByteArray.empty,.slice none 0 0]],[]⟩ 8 (by kernel_rfl) (by kernel_rfl) (by kernel_rfl) (by kernel_rfl)) ?_
  intro W base args ds gs before hval0 hW hcnd hsz _
  have hval:∀ (j:Nat) t v,Tryz.f3.params[j]?=some t→args[j]?=some v→Value.okWide Tryz.prog W .any base t v:=hval0
  have hW':=hW
  obtain ⟨p,q,hA0,hV,rfl,hfz,hnd⟩:=hW
  have hA:DataW.TrodAll enc Tryz.prog W 0 (fun _=>true) true Tryz.f3.params.toList args.toList ds p:=hA0
  rw [Tryz.params3] at hA hval hsz
  obtain ⟨v0,vs0,d0,ds0,p0,q0,hargs,rfl,rfl,h0,r0⟩:=trodAll_cons hA
  obtain ⟨v1,vs1,d1,ds1,p1,q1,rfl,rfl,rfl,h1,r1⟩:=trodAll_cons r0
  obtain ⟨v2,vs2,d2,ds2,p2,q2,rfl,rfl,rfl,h2,r2⟩:=trodAll_cons r1
  obtain ⟨rfl,rfl,rfl⟩:=trodAll_nil r2
  obtain rfl:args=#[v0,v1,v2]:=by cases args; simp_all
  obtain ⟨rfl,rfl⟩:=trodVars_none hV
  obtain ⟨pa,pk,pu,pr,ph,pB,pao,pcp,pl,hp⟩:=open_page (hval 0 24 v0 rfl rfl) h0 (sized_mem hsz (j:=0) rfl rfl)
  obtain rfl:=hp.val
  have lt0:∀ x ∈ p0,x.block < W.heap.size:=fun x hx=>hW'.lt x (by simp [hx])
  obtain ⟨a1,rfl,rfl,rfl,w1⟩:=open_int Tryz.underlying3 (hval 1 3 v1 rfl rfl) h1
  obtain ⟨S2,B2,ao2,cp2,l2,rfl,hs2,hz2,hl2,hf2⟩:=open_bin (hval 2 27 v2 rfl rfl) h2 (sized_mem hsz (j:=2) rfl rfl)
  have lt2:∀ x ∈ p2,x.block < W.heap.size:=fun x hx=>hW'.lt x (by simp [hx])
  clear hA0 hval0
  simp only [List.append_nil] at hW'
  refine (enters_law W pa pk pu pr a1 ph S2 pB pcp pao pl l2 B2 cp2 ao2 hp.strs hp.fit hp.len hp.high hp.a.2 hs2 hz2 hl2 hf2).mono fun e W' ⟨he,ho⟩=>?_
  subst he
  have bel:Below W.heap.size W W':=ho.below (Nat.le_refl _) (fun _ _ h=>h)
  exact ⟨_,rfl,_,_,_,[],_,[],hW',trodAll_mk1 (shut_bool Tryz.underlying4 _),(trodAll_cons_mk (Below.trod Tryz.laidOut (by kernel_rfl) (of_decide_eq_true (by kernel_rfl)) h0 bel lt0) (trodAll_cons_mk (shut_int Tryz.underlying3 w1) (trodAll_cons_mk (Below.trod Tryz.laidOut (by kernel_rfl) (of_decide_eq_true (by kernel_rfl)) h2 bel lt2) trodAll_mk0))),rfl,bel.frame _,fun h=>by cases h⟩
theorem over:Rows.blinkEntersRow.holds Tryz.pinned (OpenSpec.ofChange Rows.blinkEntersSpec) :=
  OpenClaim.holds_of_wide 3 Tryz.f3 rfl rfl rfl rfl rfl rfl rfl ⟨rfl,rfl,rfl,rfl,rfl⟩ rfl rfl rfl rfl rfl (by kernel_rfl) Tryz.func3 (by kernel_rfl)
    (of_decide_eq_true (by kernel_rfl)) (by unfold Func.isWrapper; first | (rw [if_pos (by decide +kernel)]; kernel_rfl) | (rw [if_neg (by decide +kernel)]; exact ⟨rfl,rfl⟩))
    (fun os started H enc _=>lifted os started H enc)
end Go.Proofs.YtipkeeobmihogaaGreat.blinkEnters
namespace Go.Proofs.YtipkeeobmihogaaGreat
theorem blinkEnters_holds:Rows.BlinkEntersSaid:=blinkEnters.over
#print axioms blinkEnters_holds
end Go.Proofs.YtipkeeobmihogaaGreat
