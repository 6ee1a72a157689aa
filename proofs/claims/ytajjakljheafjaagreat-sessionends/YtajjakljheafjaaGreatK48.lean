/- Parts. -/
import Derived.Test.YtajjakljheafjaaGreatK46
import Derived.Test.YtajjakljheafjaaGreatK47
set_option maxRecDepth 100000
namespace Go.Proofs.YtajjakljheafjaaGreat
open Go.RowKit
def Pn.tel (P:Pn) (ok:Bool) (e:En) (q:Int):Pn:=if ok=true then P.ent e (P.lv+1) (if (e.sp && okC q) then e.encS q else ⟨#[]⟩) else P.fin
set_option maxHeartbeats 3200000 in
theorem tell_any (w:World) (Z:Nat→Prop) (p:Nat) (P:Pn) (h:Pm w Z p P) (hl:0≤P.lv∧P.lv≤1000) (r:Br) (x0:Int) (e:En) (q:Int) (ok:Bool)
    (hA:∀ W,Only (fun _=>False) w W→Calls Tryz.prog 175 #[.agg (r.cellsX x0)] W fun x w'=>x=.returned (.tuple #[e.agg,.int .i64 q,.bool ok])∧Only (fun _=>False) W w') :
    Calls Tryz.prog 152 #[.pointer (some ⟨p,0,none⟩),.agg (r.cellsX x0)] w fun x w'=>x=.returned (.tuple #[])∧Pm w' Z p (P.tel ok e q)∧Only (fun k=>k=p) w w':=by
  have HO:=hide (onlyA w (.cells (r.cellsX x0) 50))
  have HB:=hide (Cb.new w (r.clX x0) 50)
  have HP:=hide (h.more HO.out)
  have HA:=hide hA
  have HLV:=hide hl
  have HNP:Hid (¬ w.heap.size=p):=fun q=>by have:=h.zlt p h.zp; omega
  clear h hA hl
  unfold En.agg at HA
  unfold Br.cellsX at *
  go_enter Tryz.func152,Tryz.ntmps152
  go_upto_region 1 with fail
  obtain ⟨W0,hW0⟩:=exq (w.alloc (.cells #[.int .i64 0,.int .i64 0,.int .i64 0,.int .u8 r.kind,.int .i64 x0,.int .i64 r.page,.int .i64 0,.int .i64 0,.int .i64 0,.int .i64 0,.string r.data,.slice Option.none 0 0,.slice Option.none 0 0,.slice r.ia r.il r.ic,.slice Option.none 0 0,.slice Option.none 0 0] 50))
  have HB:Hid (Cb W0 w.heap.size (r.clX x0)):=by rw [← hW0]; exact HB.out
  rw [hW0] at HO HP ⊢
  clear hW0
  have r0:=HB.out.c 0 _ rfl
  have r1:=HB.out.c 1 _ rfl
  have r2:=HB.out.c 2 _ rfl
  have r3:=HB.out.c 3 _ rfl
  have r4:=HB.out.c 4 _ rfl
  have r5:=HB.out.c 5 _ rfl
  have r6:=HB.out.c 6 _ rfl
  have r7:=HB.out.c 7 _ rfl
  have r8:=HB.out.c 8 _ rfl
  have r9:=HB.out.c 9 _ rfl
  have r10:=HB.out.c 10 _ rfl
  have r11:=HB.out.c 11 _ rfl
  have r12:=HB.out.c 12 _ rfl
  have r13:=HB.out.c 13 _ rfl
  have r14:=HB.out.c 14 _ rfl
  have r15:=HB.out.c 15 _ rfl
  go_wp2_with fail
  refine (HA.out W0 HO.out).mono ?_
  rintro x w1 ⟨rfl,ho⟩
  have HP1:=hide (HP.out.more ho)
  have HO1:=hide (o2 HO.out ho)
  clear r0 r1 r2 r3 r4 r5 r6 r7 r8 r9 r10 r11 r12 r13 r14 r15
  have HEB:=hide (Cb.new w1 [.string ⟨#[]⟩,.int .i64 0,.int .i64 0] 89)
  have HEO:=hide (onlyA w1 (.cells #[.string ⟨#[]⟩,.int .i64 0,.int .i64 0] 89))
  clear ho HP HO HB HA
  go_upto_region 2 with (refine wpList_put_cb rfl 89 (.tmp 4) (.tmp 12) (by rfl) w1.heap.size (by rfl) [.string ⟨#[]⟩,.int .i64 0,.int .i64 0] [.string e.key,.int .i64 e.page,.int .i64 e.slot] (by rfl) (by exact Tryz.sizeEntF) (by rfl) (by rfl) HEB.out ?_; intro W2 HW2; go_frame)
  have HX2:Hid (Only (fun _=>False) w1 W2):=HEO.out.trans HW2.out.2 (fun i hi e=>by have q:i=w1.heap.size:=e; omega)
  have HP2:=hide (HP1.out.more HX2.out)
  have HO2:=hide (o2 HO1.out HX2.out)
  have HD2:=hide HW2.out.1
  clear HX2 HW2 HEB HEO HP1 HO1
  obtain ⟨d,hd⟩:=exq (w1.heap.size)
  rw [hd] at HD2 ⊢
  clear hd
  cases ok
  · have c24:=HP2.out.cb.c 24 _ rfl
    have c25:=HP2.out.cb.c 25 _ rfl
    have c26:=HP2.out.cb.c 26 _ rfl
    have c27:=HP2.out.cb.c 27 _ rfl
    have HF:=hide (fin_any W2 Z p P HP2.out)
    go_wp2_with fail
    refine HF.out.mono ?_
    rintro x w3 ⟨rfl,hp,ho⟩
    have HP3:=hide hp
    have HO3:=hide (Op.two (HO2.out.mono (fun _ _ e=>e.elim)) ho)
    clear hp ho c24 c25 c26 c27
    go_wp2_with fail
    refine bodyPost_ret (results_none rfl _ _ _) rfl ?_
    exact ⟨rfl,by unfold Pn.tel; rw [if_neg (by decide)]; exact HP3.out,HO3.out⟩
  · obtain ⟨S,hS⟩:=exq ((if (e.sp && okC q)=true then e.encS q else ⟨#[]⟩))
    obtain ⟨EC,hEC⟩:∃ x:Int,(if (e.sp && okC q)=true then 0 else 140)=x:=⟨_,rfl⟩
    have HSP:Hid (∀ W,Calls Tryz.prog 176 #[.agg #[.string e.key,.int .i64 e.page,.int .i64 e.slot],.int .i64 q] W fun x w'=>x=.returned (.tuple #[.string S,.int .i64 EC])∧Only (fun _=>False) W w'):=fun W=>by
      rw [← hS,← hEC]
      exact sep_any e q W
    have HTEL:Hid (P.tel true e q=P.ent e (P.lv+1) S):=by unfold Hid Pn.tel; rw [if_pos rfl,hS]
    clear hS hEC
    have d0:=HD2.out.c 0 _ rfl
    have d1:=HD2.out.c 1 _ rfl
    have d2:=HD2.out.c 2 _ rfl
    go_wp2_with fail
    refine (HSP.out W2).mono ?_
    rintro x w3 ⟨rfl,ho⟩
    have HP3:=hide (HP2.out.more ho)
    have HD3:=hide (HD2.out.more ho)
    have HO3:=hide (o2 HO2.out ho)
    clear ho HSP HP2 HD2 HO2 d0 d1 d2
    have d0:=HD3.out.c 0 _ rfl
    have d1:=HD3.out.c 1 _ rfl
    have d2:=HD3.out.c 2 _ rfl
    have c14:=HP3.out.cb.c 14 _ rfl
    have hw14:IntKind.i64.wrap (P.lv+1)=P.lv+1:=by rw [IntKind.wrap_i64]; have:=HLV.out; omega
    have HEN:Hid (∀ W,Only (fun _=>False) w3 W→Calls Tryz.prog 61 #[.pointer (some ⟨p,0,none⟩),.agg #[.string e.key,.int .i64 e.page,.int .i64 e.slot],.int .i64 (P.lv+1),.string S] W fun x w'=>x=.returned (.tuple #[])∧Pm w' Z p (P.ent e (P.lv+1) S)∧Only (fun k=>k=p) W w'):=fun W ho=>enter_p W Z p P (HP3.out.more ho) e (P.lv+1) S
    go_upto_region 5 with fail
    go_region_with (refine (HEN.out _ (Only.drew _ _)).mono ?_; rintro x w5 ⟨rfl,hp,ho⟩; have HP5:=hide hp; have HO5:=hide (Op.two ((o2 HO3.out (Only.drew _ _)).mono (fun _ _ e=>e.elim)) ho); clear hp ho)
    all_goals go_wp2_with fail
    all_goals refine bodyPost_end (results_none rfl _ _ _) rfl ?_
    all_goals exact ⟨rfl,by rw [HTEL.out]; exact HP5.out,HO5.out⟩
theorem need_moreF {X:Nd} {page N:Int} {o:Option (En × Int)} (h:X.need page o=(N,0)) (hN:¬ N=0):∃ e k,o=some (e,k)∧¬ X.bad e∧512 < (X.ins e k).size∧N=(if page=1 then 2 else 1):=by
  cases o with
  | none=>simp [Nd.need] at h
  | some z=>
    obtain ⟨e,k⟩:=z
    unfold Nd.need at h
    simp only at h
    by_cases hs:X.std e=true
    · rw [if_pos hs] at h; simp at h
    · rw [if_neg hs] at h
      by_cases hw:X.wiK (some (e,k))=3
      · rw [if_pos hw] at h
        unfold Nd.wiK at hw
        simp only at hw
        by_cases hb:X.bad e
        · rw [if_pos hb] at hw; cases hw
        · rw [if_neg hb] at hw
          by_cases hz:512 < (X.ins e k).size
          · refine ⟨e,k,rfl,hb,hz,?_⟩
            injection h with h1 h2
            exact h1.symm
          · rw [if_neg hz] at hw; cases hw
      · rw [if_neg hw] at h
        injection h with h1 h2
        exact absurd h1.symm hN
inductive EpR (w w':World) (x:Ending) (page:Int) (s:ByteArray):Prop
  | no (c:Int) (hc:¬ c=0) (hx:x=.returned (.tuple #[.agg Br.none.cells,.int .i64 c])) (ho:Only (fun _=>False) w w')
  | in_ (hx:x=.returned (.tuple #[.agg (Br.cells ⟨3,page,s,none,0,0⟩),.int .i64 0])) (ho:Only (fun _=>False) w w')
  | two (b ic:Nat) (p q:Int) (z1 z2:Pz) (e:En) (he:e.ok=true) (hh:z1.p.high=e.enc) (hr:Rg w' b 0 (imc p z1++imc q z2)) (hb:w.heap.size≤b) (hx:x=.returned (.tuple #[.agg (Br.cells ⟨5,0,⟨#[]⟩,some ⟨b,0,none⟩,2,ic⟩),.int .i64 0])) (ho:Only (fun _=>False) w w')
  | three (b ic:Nat) (hx:x=.returned (.tuple #[.agg (Br.cells ⟨5,0,⟨#[]⟩,some ⟨b,0,none⟩,3,ic⟩),.int .i64 0])) (ho:Only (fun _=>False) w w')
theorem nl_hiF (X:Nd) (e:En) (c:Int) (j:Nat):(X.nl e c j).hi=X.bord:=by unfold Nd.nl; split <;> rfl
theorem hiB_okF {f:En} (h:f.ok=true):hiB f=f.enc:=by
  unfold hiB
  rw [if_neg]
  rintro rfl
  exact absurd h (by decide)
set_option maxHeartbeats 1600000 in
theorem enter_page (w:World) (a k v r page:Int) (h s:ByteArray) (B cp:Nat) (ao:Option Addr) (l:List ByteArray) (zs:List Int) (fb fc:Nat) (fa:Option Addr)
    (hS:Strs w B ao l) (hF:Fit ao l.length cp) (hl:l.length≤8796093021952) (hh:h.size≤140737488355328) (ha:a < 9223372036854775808)
    (hz:Nz w fb fa zs) (hz1:zs.length≤fc) (hz2:fc≤maxLen) :
    Calls Tryz.prog 151 #[.agg #[.int .i64 a,.int .i64 k,.int .i64 v,.int .i64 r,.string h,.slice ao l.length cp],.int .i64 page,.string s,.slice fa zs.length fc] w fun x w'=>EpR w w' x page s:=by
  have hn:Ns w fb fa zs:=⟨hz.at_,hz.len⟩
  cases hb:ckB a k v r h l with
  | false=>exact (benter_no w a k v r page h s B cp ao l hS hl hh ha hb zs.length fc fa).mono (fun x w' q=>.no 140 (by decide) q.1 q.2)
  | true=>
    obtain ⟨ha0,X,hG,rfl,rfl,rfl,rfl,rfl⟩:=ckB_node hb
    obtain ⟨N,hN⟩:=exq ((X.need page (brd X.lv s)).1)
    obtain ⟨E,hE⟩:=exq ((X.need page (brd X.lv s)).2)
    have hNE:X.need page (brd X.lv s)=(N,E):=by rw [← hN,← hE]
    clear hb hN hE
    by_cases hE0:E=0
    case neg=>exact (enter_err w a page X s B cp ao zs fc fa hG hS hF ⟨ha0,ha⟩ N E hNE hE0).mono (fun x w' q=>.no E hE0 q.1 q.2)
    subst hE0
    by_cases hR:(zs.length:Int)=N∧frs zs=true
    case neg=>
      refine (enter_arg w a page X s B cp ao zs fb fc fa hG hS hF ⟨ha0,ha⟩ hn hz1 hz2 N hNE ?_).mono (fun x w' q=>.no 1 (by decide) q.1 q.2)
      by_cases q:(zs.length:Int)=N
      · right
        cases hf:frs zs with
        | false=>rfl
        | true=>exact absurd ⟨q,hf⟩ hR
      · exact .inl q
    obtain ⟨hlen,hfr⟩:=hR
    by_cases h0:N=0
    case pos=>
      subst h0
      have hzs:zs=[]:=List.eq_nil_of_length_eq_zero (by omega)
      exact (enter_in w a page X s B cp ao zs fb fc fa hG hS hF ⟨ha0,ha⟩ hn hz1 hz2 hNE hzs).mono (fun x w' q=>.in_ q.1 q.2)
    obtain ⟨e,c,hsb,hbad,hf,hNp⟩:=need_moreF hNE h0
    obtain ⟨lo,hok⟩:=hG.ok
    have hc9:0 < X.lv→okC c=true:=fun v=>by
      unfold brd at hsb
      rw [if_neg (by omega)] at hsb
      exact (decS_some hsb).2.1
    have hn2:2≤X.ks.length:=by have:=(hok.two hG.kok hbad hc9 hf).1; omega
    have hbo:=(hok.bord hn2).1
    by_cases hp:page=1
    case neg=>
      rw [if_neg hp] at hNp
      subst hNp
      obtain ⟨J,rfl⟩:∃ J,zs=[J]:=by
        match zs,hlen with
        | [J],_=>exact ⟨J,rfl⟩
        | [],q=>simp at q
        | _ :: _ :: t,q=>simp at q; omega
      obtain ⟨fo,rfl,hcell⟩:=hz.at_ (by simp)
      have hc0:=hcell 0 (by simp)
      have hlt:=hz.lt (by simp)
      cases hJ:okC J with
      | false=>
        exact (enter_sp w a page X s B cp ao [J] fb fc _ hG hS hF ⟨ha0,ha⟩ hn hz1 hz2 1 hNE h0 hlen hfr
            (fun W' o'=>bsplit_no1 W' a page X J B cp fb fo fc ao (hG.nm (hS.more o')) hJ hn2 ((o'.cell (p:=⟨fb,fo,none⟩) hlt (fun q=>q)).trans hc0))).mono (fun x w' q=>.no 140 (by decide) q.1 q.2)
      | true=>
        obtain ⟨j,rfl⟩:∃ j:Nat,J=(j:Int):=⟨J.toNat,by have:=okC_iff.1 hJ; omega⟩
        refine (enter_one w a page X s B cp ao [(j:Int)] fb fc _ hG hS hF ⟨ha0,ha⟩ hn hz1 hz2 j e c hNE rfl hJ hfr hsb hbad hf).mono (fun x w' q=>?_)
        obtain ⟨b,ao1,cp1,ao2,cp2,q1,q2,_,_,q5⟩:=q
        exact .two b 2 page j _ _ X.bord hbo (by show hiB (X.nl e c j).hi=_; rw [nl_hiF]; exact hiB_okF hbo) (own_rg q2) (World.ownsRow.lt q2 b rfl).1 q1 q5
    case pos=>
      rw [if_pos hp] at hNp
      subst hNp
      obtain ⟨I,J,rfl⟩:∃ I J,zs=[I,J]:=by
        match zs,hlen with
        | [I,J],_=>exact ⟨I,J,rfl⟩
        | [],q=>simp at q
        | [_],q=>simp at q
        | _ :: _ :: _ :: t,q=>simp at q; omega
      obtain ⟨fo,rfl,hcell⟩:=hz.at_ (by simp)
      have hc0:=hcell 0 (by simp)
      have hc1:=hcell 1 (by simp)
      have hlt:=hz.lt (by simp)
      cases hJ:okC J with
      | false=>
        exact (enter_sp w a page X s B cp ao [I,J] fb fc _ hG hS hF ⟨ha0,ha⟩ hn hz1 hz2 2 hNE h0 hlen hfr
            (fun W' o'=>bsplit_no2 W' a page X J B cp fb fo fc ao (hG.nm (hS.more o')) hJ hn2 ((o'.cell (p:=⟨fb,fo+1,none⟩) hlt (fun q=>q)).trans hc1))).mono (fun x w' q=>.no 140 (by decide) q.1 q.2)
      | true=>
        obtain ⟨j,rfl⟩:∃ j:Nat,J=(j:Int):=⟨J.toNat,by have:=okC_iff.1 hJ; omega⟩
        by_cases hv:X.lv+1≤255∧okC I=true
        case neg=>
          have hv':255 < (X.lv:Int)+1∨((X.lv:Int)+1≤255∧okC I=false):=by
            by_cases q:X.lv+1≤255
            · refine .inr ⟨by omega,?_⟩
              cases hI:okC I with
              | false=>rfl
              | true=>exact absurd ⟨q,hI⟩ hv
            · exact .inl (by omega)
          exact (enter_sp w a page X s B cp ao [I,(j:Int)] fb fc _ hG hS hF ⟨ha0,ha⟩ hn hz1 hz2 2 hNE h0 hlen hfr
              (fun W' o'=>bsplit_root W' a page X I j B cp fb fo fc ao (hG.nm (hS.more o')) hF hv' hJ hn2 ((o'.cell (p:=⟨fb,fo,none⟩) hlt (fun q=>q)).trans hc0) ((o'.cell (p:=⟨fb,fo+1,none⟩) hlt (fun q=>q)).trans hc1))).mono (fun x w' q=>.no 140 (by decide) q.1 q.2)
        case pos=>
          obtain ⟨hv1,hI⟩:=hv
          obtain ⟨i,rfl⟩:∃ i:Nat,I=(i:Int):=⟨I.toNat,by have:=okC_iff.1 hI; omega⟩
          subst hp
          refine (enter_two w a 1 X s B cp ao [(i:Int),(j:Int)] fb fc _ hG hS hF ⟨ha0,ha⟩ hn hz1 hz2 i j e c hNE rfl hI hJ hfr hv1 hsb hbad hf).mono (fun x w' q=>?_)
          obtain ⟨b,ic,ao1,cp1,ao2,cp2,ao3,cp3,q1,_,_,_,_,q5⟩:=q
          exact .three b ic q1 q5
def Abv (w:World) (R:Br) (K:Nat→Prop):Prop :=
  (¬ R.kind=5∨¬ (R.il:Int)=2)∨∃ b ic p q z1 z2 e,R=⟨5,0,⟨#[]⟩,some ⟨b,0,none⟩,2,ic⟩∧En.ok e=true∧z1.p.high=e.enc∧Rg w b 0 (imc p z1++imc q z2)∧K b∧b < w.heap.size
def Fct (w:World) (R:Br) (c:Int) (K:Nat→Prop):Prop:=¬ c=0∨(c=0∧Abv w R K)
theorem Abv.kept {S K L:Nat→Prop} {w w':World} {R:Br} (h:Abv w R K) (ho:Only S w w') (hS:∀ i,K i∧i < w.heap.size→¬ S i) (hK:∀ i,K i∧i < w.heap.size→L i):Abv w' R L:=by
  rcases h with h | ⟨b,ic,p,q,z1,z2,e,h1,h2,h3,h4,h5,h6⟩
  · exact .inl h
  · exact .inr ⟨b,ic,p,q,z1,z2,e,h1,h2,h3,h4.kept ho (hS b ⟨h5,h6⟩),hK b ⟨h5,h6⟩,Nat.lt_of_lt_of_le h6 ho.size⟩
theorem Fct.kept {S K L:Nat→Prop} {w w':World} {R:Br} {c:Int} (h:Fct w R c K) (ho:Only S w w') (hS:∀ i,K i∧i < w.heap.size→¬ S i) (hK:∀ i,K i∧i < w.heap.size→L i):Fct w' R c L:=by
  rcases h with h | ⟨h,k⟩
  · exact .inl h
  · exact .inr ⟨h,k.kept ho hS hK⟩
theorem Abv.tells {w:World} {R:Br} {K:Nat→Prop} (h:Abv w R K) (x0:Int):∃ e q ok,(ok=true→En.ok e=true)∧∀ W,Only (fun _=>False) w W→Calls Tryz.prog 175 #[.agg (R.cellsX x0)] W fun x w'=>x=.returned (.tuple #[En.agg e,.int .i64 q,.bool ok])∧Only (fun _=>False) W w':=by
  rcases h with h | ⟨b,ic,p,q,z1,z2,e,rfl,h2,h3,h4,h5,h6⟩
  · exact ⟨noE,0,false,(fun q=>by cases q),fun W ho=>above_noX W R x0 h⟩
  · exact ⟨e,q,true,fun _=>h2,fun W ho=>above_twoX W x0 0 ⟨#[]⟩ b ic p q z1 z2 [] e (by rw [List.append_nil]; exact h4.more ho) h3 h2⟩
theorem EpR.fct {w w':World} {x:Ending} {page:Int} {s:ByteArray} (h:EpR w w' x page s):∃ R c,x=.returned (.tuple #[.agg (Br.cells R),.int .i64 c])∧Only (fun _=>False) w w'∧Fct w' R c (fun i=>w.heap.size≤i):=by
  cases h with
  | no c hc hx ho=>exact ⟨Br.none,c,hx,ho,.inl hc⟩
  | in_ hx ho=>exact ⟨_,0,hx,ho,.inr ⟨rfl,.inl (.inl (by show ¬ (3:Int)=5; decide))⟩⟩
  | two b ic p q z1 z2 e he hh hr hb hx ho=>exact ⟨_,0,hx,ho,.inr ⟨rfl,.inr ⟨b,ic,p,q,z1,z2,e,rfl,he,hh,hr,hb,hr.lt⟩⟩⟩
  | three b ic hx ho=>exact ⟨_,0,hx,ho,.inr ⟨rfl,.inl (.inr (by show ¬ ((3:Nat):Int)=2; decide))⟩⟩
def ItmR (P:Pn) (P':Pn) (cs:List Value) (is:Bool):Prop :=
  (is=false∧cs=Hr.none.cl∧(P'=P.fin∨∃ e,P'=P.fl e))∨(is=true∧(P'=P.fin∨∃ e q,En.ok e=true∧P'=P.tel true e q))
set_option maxHeartbeats 3200000 in
theorem item_step (w:World) (Z:Nat→Prop) (p:Nat) (P:Pn) (h:Pm w Z p P) (hl:0≤P.lv∧P.lv≤1000) (V:Vv) (B:Pv) (fa:Option Addr) (fn fc:Nat)
    (hE:∀ W,Only (fun _=>False) w W→Calls Tryz.prog 151 #[.agg B.ar,.int .i64 P.wp,.string P.item,.slice fa fn fc] W fun x w'=>∃ R c,x=.returned (.tuple #[.agg (Br.cells R),.int .i64 c])∧Only (fun _=>False) W w'∧Fct w' R c (fun i=>W.heap.size≤i)) :
    Calls Tryz.prog 108 #[.pointer (some ⟨p,0,none⟩),.agg V.ar,.agg B.ar,.slice fa fn fc] w (SQ w Z p (ItmR P)):=by
  have H3:=hide (St3.new w V B)
  have HH:=hide (h.more H3.out.only)
  have HE:=hide hE
  have HLV:=hide hl
  have HZW:=hide h.zlt
  have HZP:Hid (Z p):=h.zp
  clear h hE hl
  unfold Vv.ar Pv.ar at *
  have HNR:Hid (¬ Z (w.heap.size+1+1)):=fun q=>by have:=HZW.out _ q; omega
  go_enter Tryz.func108,Tryz.ntmps108
  go_upto_region 1 with fail
  obtain ⟨W0,hW0⟩:=exq (((w.alloc (.cells #[.int .i64 V.m,.int .i64 V.nx,.slice V.aA V.nA V.cA,.int .i64 V.ow,.slice V.aR V.nR V.cR,.int .i64 V.l,.int .i64 V.k,.int .i64 V.v,.int .i64 V.r,.string V.h,.slice V.aP V.nP V.cP] 42)).alloc (.cells #[.int .i64 B.a,.int .i64 B.k,.int .i64 B.v,.int .i64 B.r,.string B.h,.slice B.ao B.n B.cp] 37)).alloc (.cells Hr.none.cells 50))
  rw [hW0] at H3 HH ⊢
  clear hW0
  go_cut [10,11] (fun x y wx=>∃ b w1 R c,x=.pointer (some ⟨b,0,none⟩)∧y=.int .i64 c∧w.heap.size+1+1 < b∧w1=wx∧Hid (Cb w1 b (Br.cl R))∧Hid (Only (fun _=>False) W0 w1)∧Hid (Fct w1 R c (fun i=>w.heap.size≤i∧i≠b)))
  case first=>
    refine wp_region_noPanic ?_
    refine wp_region_held_drew (S:=fun W=>Only (fun _=>False) W0 W) (by kernel_rfl) (Only.drew _ _) (fun hHeld=>?_)
    refine tkQ 0 (.agg #[.int .i64 B.a,.int .i64 B.k,.int .i64 B.v,.int .i64 B.r,.string B.h,.slice B.ao B.n B.cp]) rfl (yieldsIf_load_page (by rfl) _ rfl _ rfl (fun W hW=>(H3.out.more hW).pb.pag)) ?_
    refine tkP 1 (.pointer (some ⟨p,0,none⟩)) rfl ?_
    refine tkP 6 (.pointer (some ⟨p,0,none⟩)) rfl ?_
    refine tkP 10 (.slice fa fn fc) rfl ?_
    refine tkP 2 (.pointer (some ⟨p,0,none⟩)) rfl ?_
    refine tkP 7 (.pointer (some ⟨p,0,none⟩)) rfl ?_
    refine tkP 3 (.pointer (some ⟨p,6,none⟩)) rfl ?_
    refine tkP 8 (.pointer (some ⟨p,23,none⟩)) rfl ?_
    refine tkP 4 (.pointer (some ⟨p,9,none⟩)) rfl ?_
    refine tkQ 9 (.string P.item) rfl (yieldsIf_load_cell (by rfl) 9 _ rfl _ rfl (fun W hW=>(HH.out.more hW).cb.c 23 _ rfl) (fun W hc=>ld_string hc)) ?_
    refine tkQ 5 (.int .i64 P.wp) rfl (yieldsIf_load_cell (by rfl) 3 _ rfl _ rfl (fun W hW=>(HH.out.more hW).cb.c 9 _ rfl) (fun W hc=>ld_int hc)) ?_
    refine wpAnyH_ready (rs:=[11,15]) (by kernel_rfl) (by simp) ?_
    refine arC rfl (fun K hK=>?_) (arC rfl (fun K hK=>?_) (AllReadyH.nil))
    · go_simp
      refine (HE.out _ (o2 H3.out.only hHeld)).mono ?_
      rintro x w3 ⟨R,c,rfl,ho,hf⟩
      have HO3:=hide (o2 hHeld ho)
      have HF:=hide hf
      clear ho hf
      refine hK.out _ _ (HO3.out) (fun hHeld=>?_)
      clear hK K
      try simp only [Act.put,lsA,lsB,lsC]
      refine tkP 12 (.tuple #[.agg R.cells,.int .i64 c]) rfl ?_
      refine tkP 13 (.agg R.cells) rfl ?_
      refine tkP 14 (.int .i64 c) rfl ?_
      refine rd1 15 rfl (fun K hK=>?_)
      go_simp
      have HCB:=hide (Cb.new w3 Br.none.cl 50)
      have HLB:Hid (W0.heap.size≤w3.heap.size):=hHeld.size
      refine hK.out _ _ (o2 hHeld (onlyA _ _)) (fun hHeld=>?_)
      clear hK K
      try simp only [Act.put,lsA,lsB,lsC]
      refine rd1 16 rfl (fun K hK=>?_)
      rw [if_pos (by rfl)]
      have HTH:Hid ((w3.alloc (.cells Br.none.cells 50)).there w3.heap.size 0 R.cells.size):=by exact HCB.out.rg.there
      refine wp_store_mid 50 (.tmp 10) (.tmp 25) rfl w3.heap.size 0 R.cells rfl rfl HTH.out Tryz.sizeRecF (by simp [Value.oneCell']) ?_
      have HC4:Hid (Cb ((w3.alloc (.cells Br.none.cells 50)).setCells w3.heap.size 0 R.cl) w3.heap.size R.cl):=Cb.putF HCB.out R.cl rfl
      have HO4:Hid (Only (fun _=>False) W0 ((w3.alloc (.cells Br.none.cells 50)).setCells w3.heap.size 0 R.cl)):=hHeld.trans (only_setCells w3.heap.size R.cl 0 (w3.alloc (.cells Br.none.cells 50))) (fun i hi e=>by have:=HLB.out; omega)
      have HF4:Hid (Fct ((w3.alloc (.cells Br.none.cells 50)).setCells w3.heap.size 0 R.cl) R c (fun i=>w.heap.size≤i∧i≠w3.heap.size)):=HF.out.kept (((onlyA w3 (.cells Br.none.cells 50)).mono (fun _ _ e=>e.elim)).trans (only_setCells w3.heap.size R.cl 0 (w3.alloc (.cells Br.none.cells 50))) (fun _ _ e=>e)) (fun i h1 h2=>by have q:i=w3.heap.size:=h2; have:=h1.2; omega) (fun i h1=>⟨by have q2:=H3.out.only.size; have q3:W0.heap.size≤i:=h1.1; omega,fun q=>by have:=h1.2; omega⟩)
      refine hK.out _ _ (HO4.out) (fun hHeld=>?_)
      clear hK K
      simp only [Act.put]
      refine tkP 17 (.int .i64 c) rfl ?_
      refine dnN ?_
      go_wp2_with fail
      go_meet
      exact ⟨_,_,_,_,rfl,rfl,Nat.lt_of_lt_of_le H3.out.rb.lt HLB.out,rfl,HC4,hide hHeld,HF4⟩
    · go_simp
      have HCB:=hide (Cb.new W0.drew Br.none.cl 50)
      have HLB:Hid (W0.heap.size≤W0.drew.heap.size):=hHeld.size
      have HAZ:Hid (W0.heap.size < (W0.drew.alloc (.cells Br.none.cells 50)).heap.size):=(Cb.new W0.drew Br.none.cl 50).lt
      refine hK.out _ _ (o2 hHeld (onlyA _ _)) (fun hHeld=>?_)
      clear hK K
      try simp only [Act.put,lsA,lsB,lsC]
      refine rd1 11 rfl (fun K hK=>?_)
      go_simp
      refine (HE.out _ (o2 H3.out.only hHeld)).mono ?_
      rintro x w3 ⟨R,c,rfl,ho,hf⟩
      have HO3:=hide (o2 hHeld ho)
      have HF:=hide hf
      have HCB:=hide (HCB.out.more ho)
      clear ho hf
      refine hK.out _ _ (HO3.out) (fun hHeld=>?_)
      clear hK K
      try simp only [Act.put,lsA,lsB,lsC]
      refine tkP 12 (.tuple #[.agg R.cells,.int .i64 c]) rfl ?_
      refine tkP 13 (.agg R.cells) rfl ?_
      refine tkP 14 (.int .i64 c) rfl ?_
      refine rd1 16 rfl (fun K hK=>?_)
      rw [if_pos (by rfl)]
      have HTH:Hid (w3.there W0.drew.heap.size 0 R.cells.size):=by exact HCB.out.rg.there
      refine wp_store_mid 50 (.tmp 10) (.tmp 25) rfl W0.drew.heap.size 0 R.cells rfl rfl HTH.out Tryz.sizeRecF (by simp [Value.oneCell']) ?_
      have HC4:Hid (Cb (w3.setCells W0.drew.heap.size 0 R.cl) W0.drew.heap.size R.cl):=Cb.putF HCB.out R.cl rfl
      have HO4:Hid (Only (fun _=>False) W0 (w3.setCells W0.drew.heap.size 0 R.cl)):=hHeld.trans (only_setCells W0.drew.heap.size R.cl 0 w3) (fun i hi e=>by have:=HLB.out; omega)
      have HF4:Hid (Fct (w3.setCells W0.drew.heap.size 0 R.cl) R c (fun i=>w.heap.size≤i∧i≠W0.drew.heap.size)):=HF.out.kept (only_setCells W0.drew.heap.size R.cl 0 w3) (fun i h1 h2=>by have q:i=W0.heap.size:=h2; have q1:(W0.drew.alloc (.cells Br.none.cells 50)).heap.size≤i:=h1.1; have q2:=HAZ.out; omega) (fun i h1=>⟨by have q:(W0.drew.alloc (.cells Br.none.cells 50)).heap.size≤i:=h1.1; have q2:=H3.out.only.size; have q3:=HAZ.out; omega,fun q=>by have q0:i=W0.heap.size:=q; have q2:(W0.drew.alloc (.cells Br.none.cells 50)).heap.size≤i:=h1.1; have q3:=HAZ.out; omega⟩)
      refine hK.out _ _ (HO4.out) (fun hHeld=>?_)
      clear hK K
      simp only [Act.put]
      refine tkP 17 (.int .i64 c) rfl ?_
      refine dnN ?_
      go_wp2_with fail
      go_meet
      exact ⟨_,_,_,_,rfl,rfl,Nat.lt_of_lt_of_le H3.out.rb.lt HLB.out,rfl,HC4,hide hHeld,HF4⟩
  case rest=>
    obtain ⟨b,w1,R,c,rfl,rfl,hb3,hw1,HC1,HO0,HFC⟩:=hcut
    subst hw1
    have HB3:=hide hb3
    clear hb3 HE
    have HP1:=hide (HH.out.more HO0.out)
    have HR1:=hide (H3.out.rb.more HO0.out)
    have HOA:=hide (o2 H3.out.only HO0.out)
    have HNB:Hid (¬ b=p):=fun e=>by have:=HZW.out p HZP.out; have:=HB3.out; omega
    clear HH H3 HO0
    by_cases hc:c=0
    · subst hc
      have HAB:Hid (Abv w1 R (fun i=>w.heap.size≤i∧i≠b)):=HFC.out.elim (fun q=>absurd rfl q) (fun q=>q.2)
      clear HFC
      have c5:=HP1.out.cb.c 5 _ rfl
      have k4:=HC1.out.c 4 _ rfl
      have g4:=HC1.out.f 4
      go_upto_region 5 with fail
      have HO:=Only.put w1 b 4 (.int .i64 P.own)
      have HC2:Hid (Cb (w1.setCell ⟨b,4,none⟩ (.int .i64 P.own)) b (R.clX P.own)):=HC1.out.set 4 _
      have HP2:=hide (HP1.out.kept HO (fun k hk q=>by have q2:k=b:=q; have:=HZW.out k hk; have:=HB3.out; omega))
      have HR2:=hide (HR1.out.kept HO (fun q=>by have q2:w.heap.size+1+1=b:=q; have:=HB3.out; omega))
      have HAB2:=hide (HAB.out.kept HO (fun i h1 q=>h1.1.2 q) (L:=fun i=>w.heap.size≤i∧i≠b) (fun i h1=>h1.1))
      have HO2:=hide (HOA.out.trans HO (fun i hi e=>by have q2:i=b:=e; have:=HB3.out; omega))
      clear HO HP1 HR1 HAB HOA HC1 c5 k4 g4
      obtain ⟨w2,hw2⟩:=exq (w1.setCell ⟨b,4,none⟩ (.int .i64 P.own))
      rw [hw2] at HC2 HP2 HR2 HAB2 HO2 ⊢
      clear hw2
      obtain ⟨e,q,ok,hok,hab⟩:=HAB2.out.tells P.own
      have HOK:=hide hok
      have HT:=hide (tell_any w2 Z p P HP2.out HLV.out R P.own e q ok hab)
      clear hok hab HAB2
      unfold Br.cellsX at HT
      have r0:=HC2.out.c 0 _ rfl
      have r1:=HC2.out.c 1 _ rfl
      have r2:=HC2.out.c 2 _ rfl
      have r3:=HC2.out.c 3 _ rfl
      have r4:=HC2.out.c 4 _ rfl
      have r5:=HC2.out.c 5 _ rfl
      have r6:=HC2.out.c 6 _ rfl
      have r7:=HC2.out.c 7 _ rfl
      have r8:=HC2.out.c 8 _ rfl
      have r9:=HC2.out.c 9 _ rfl
      have r10:=HC2.out.c 10 _ rfl
      have r11:=HC2.out.c 11 _ rfl
      have r12:=HC2.out.c 12 _ rfl
      have r13:=HC2.out.c 13 _ rfl
      have r14:=HC2.out.c 14 _ rfl
      have r15:=HC2.out.c 15 _ rfl
      go_wp2_with fail
      refine HT.out.mono ?_
      rintro x w5 ⟨rfl,hp,ho⟩
      have HP5:=hide hp
      have HO5:=hide ho
      have HR5:=hide (HR2.out.kept ho (fun q=>HNR.out (by rw [q]; exact HZP.out)))
      have HC5:=hide (HC2.out.kept ho HNB.out)
      clear hp ho HT HP2 HR2 HC2
      clear r0 r1 r2 r3 r4 r5 r6 r7 r8 r9 r10 r11 r12 r13 r14 r15
      have r0:=HC5.out.c 0 _ rfl
      have r1:=HC5.out.c 1 _ rfl
      have r2:=HC5.out.c 2 _ rfl
      have r3:=HC5.out.c 3 _ rfl
      have r4:=HC5.out.c 4 _ rfl
      have r5:=HC5.out.c 5 _ rfl
      have r6:=HC5.out.c 6 _ rfl
      have r7:=HC5.out.c 7 _ rfl
      have r8:=HC5.out.c 8 _ rfl
      have r9:=HC5.out.c 9 _ rfl
      have r10:=HC5.out.c 10 _ rfl
      have r11:=HC5.out.c 11 _ rfl
      have r12:=HC5.out.c 12 _ rfl
      have r13:=HC5.out.c 13 _ rfl
      have r14:=HC5.out.c 14 _ rfl
      have r15:=HC5.out.c 15 _ rfl
      go_wp2_with (refine wpList_put_cb rfl 50 (.tmp 8) (.tmp 38) (by rfl) (w.heap.size+1+1) (by rfl) Hr.none.cl (R.clX P.own) (by rfl) Tryz.sizeRecF (by rfl) (by rfl) HR5.out ?_; intro W9 HW9; go_frame)
      refine bodyPost_ret (results_cb16 rfl rfl HW9.out.1 rfl) rfl ?_
      refine ⟨Z,_,R.clX P.own,true,⟨rfl,rfl,rfl⟩,fun _ _ q=>q,HP5.out.late HW9.out.2 HNR.out,?_,?_⟩
      · exact (((HO2.out.mono (fun _ _ e=>e.elim)).trans (HO5.out.mono (fun k _ e=>by rw [e]; exact HZP.out)) (fun _ _ e=>e)).trans (HW9.out.2) (fun i hi e=>by omega))
      · cases ok with
        | true=>exact .inr ⟨rfl,.inr ⟨e,q,HOK.out rfl,rfl⟩⟩
        | false=>exact .inr ⟨rfl,.inl (by unfold Pn.tel; rw [if_neg (by decide)])⟩
    · have hb:(c == 0)=false:=by simpa using hc
      clear hc HFC
      by_cases hr:c=150
      · have hb2:(c == 150)=true:=by simp [hr]
        clear hr
        have c24:=HP1.out.cb.c 24 _ rfl
        have c25:=HP1.out.cb.c 25 _ rfl
        have c26:=HP1.out.cb.c 26 _ rfl
        have c27:=HP1.out.cb.c 27 _ rfl
        have HS:=hide (fin_any _ Z p P HP1.out)
        go_wp2_with fail
        refine HS.out.mono ?_
        rintro x w5 ⟨rfl,hp,ho⟩
        have HP5:=hide hp
        have HO5:=hide ho
        have HR5:=hide (HR1.out.kept ho (fun q=>HNR.out (by rw [q]; exact HZP.out)))
        clear hp ho HS HP1 HR1 HC1 c24 c25 c26 c27
        go_wp2_with fail
        refine (nothing_any w5).mono ?_
        rintro x w6 ⟨rfl,ho⟩
        have HP6:=hide (HP5.out.more ho)
        have HR6:=hide (HR5.out.more ho)
        have HO6:=hide (HO5.out.trans (ho.mono (fun _ _ e=>e.elim)) (fun _ _ e=>e))
        clear ho HP5 HR5 HO5
        unfold noRec
        go_wp2_with (refine wpList_put_cb rfl 50 (.tmp 8) (.tmp 48) (by rfl) (w.heap.size+1+1) (by rfl) Hr.none.cl Hr.none.cl (by rfl) Tryz.sizeRecF (by rfl) (by rfl) HR6.out ?_; intro W9 HW9; go_frame)
        refine bodyPost_ret (results_cb16 rfl rfl HW9.out.1 rfl) rfl ?_
        refine ⟨Z,_,Hr.none.cl,false,⟨rfl,rfl,rfl⟩,fun _ _ q=>q,HP6.out.late HW9.out.2 HNR.out,?_,?_⟩
        · exact (((HOA.out.mono (fun _ _ e=>e.elim)).trans (HO6.out.mono (fun k _ e=>by rw [e]; exact HZP.out)) (fun _ _ e=>e)).trans (HW9.out.2) (fun i hi e=>by omega))
        · exact .inl ⟨rfl,rfl,.inl rfl⟩
      · have hb2:(c == 150)=false:=by simpa using hr
        clear hr
        by_cases hr:c=1
        · have hb3:(c == 1)=true:=by simp [hr]
          clear hr
          have HS:=hide (failS_any _ Z p P HP1.out 224)
          go_wp2_with fail
          refine HS.out.mono ?_
          rintro x w5 ⟨rfl,hp,ho⟩
          have HP5:=hide hp
          have HO5:=hide ho
          have HR5:=hide (HR1.out.kept ho (fun q=>HNR.out (by rw [q]; exact HZP.out)))
          clear hp ho HS HP1 HR1 HC1
          unfold noRec
          go_wp2_with (refine wpList_put_cb rfl 50 (.tmp 8) (.tmp 54) (by rfl) (w.heap.size+1+1) (by rfl) Hr.none.cl Hr.none.cl (by rfl) Tryz.sizeRecF (by rfl) (by rfl) HR5.out ?_; intro W9 HW9; go_frame)
          refine bodyPost_ret (results_cb16 rfl rfl HW9.out.1 rfl) rfl ?_
          refine ⟨Z,_,Hr.none.cl,false,⟨rfl,rfl,rfl⟩,fun _ _ q=>q,HP5.out.late HW9.out.2 HNR.out,?_,?_⟩
          · exact (((HOA.out.mono (fun _ _ e=>e.elim)).trans (HO5.out.mono (fun k _ e=>by rw [e]; exact HZP.out)) (fun _ _ e=>e)).trans (HW9.out.2) (fun i hi e=>by omega))
          · exact .inl ⟨rfl,rfl,.inr ⟨224,rfl⟩⟩
        · have hb3:(c == 1)=false:=by simpa using hr
          clear hr
          have HS:=hide (failS_any _ Z p P HP1.out 60)
          go_wp2_with fail
          refine HS.out.mono ?_
          rintro x w5 ⟨rfl,hp,ho⟩
          have HP5:=hide hp
          have HO5:=hide ho
          have HR5:=hide (HR1.out.kept ho (fun q=>HNR.out (by rw [q]; exact HZP.out)))
          clear hp ho HS HP1 HR1 HC1
          unfold noRec
          go_wp2_with (refine wpList_put_cb rfl 50 (.tmp 8) (.tmp 58) (by rfl) (w.heap.size+1+1) (by rfl) Hr.none.cl Hr.none.cl (by rfl) Tryz.sizeRecF (by rfl) (by rfl) HR5.out ?_; intro W9 HW9; go_frame)
          refine bodyPost_ret (results_cb16 rfl rfl HW9.out.1 rfl) rfl ?_
          refine ⟨Z,_,Hr.none.cl,false,⟨rfl,rfl,rfl⟩,fun _ _ q=>q,HP5.out.late HW9.out.2 HNR.out,?_,?_⟩
          · exact (((HOA.out.mono (fun _ _ e=>e.elim)).trans (HO5.out.mono (fun k _ e=>by rw [e]; exact HZP.out)) (fun _ _ e=>e)).trans (HW9.out.2) (fun i hi e=>by omega))
          · exact .inl ⟨rfl,rfl,.inr ⟨60,rfl⟩⟩
end Go.Proofs.YtajjakljheafjaaGreat
