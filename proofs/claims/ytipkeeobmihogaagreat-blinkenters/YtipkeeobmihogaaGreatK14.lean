/- Parts. -/
import Derived.Test.YtipkeeobmihogaaGreatK13
set_option maxRecDepth 100000
namespace Go.Proofs.YtipkeeobmihogaaGreat
open Go.RowKit
theorem put_cat0 (w:World) (a k v r:Int) (h:ByteArray) (it:ByteArray) (hit:it.size≤140737488355328) (W:World)
    (hW:Only (fun _=>False) (((boxes w a k v r h (.slice none 0 0)).alloc (.cells #[.string it] 9)).alloc (.cells #[.slice none 0 0,.slice (some ⟨w.heap.size+1+1,0,none⟩) 1 1,.slice none 0 0] 22)) W) :
    Calls Tryz.prog 114 #[.slice (some ⟨w.heap.size+1+1+1,0,none⟩) 3 3] W fun e w'=>∃ B5 ao5 cp5,e=.returned (.slice ao5 [it].length cp5)∧w'.cell? ⟨w.heap.size,5,none⟩=some (.slice none 0 0)∧w'.frozen? ⟨w.heap.size,5,none⟩=false∧Hid (Aft w w' a k v r h (.slice none 0 0) B5 ao5 cp5 [it]):=by
  have hB1:=boxes_one w a k v r h (.slice none 0 0)
  have hB2:=boxes_two w a k v r h (.slice none 0 0)
  obtain ⟨W0,hW0⟩:=exq (boxes w a k v r h (.slice none 0 0))
  have hz:=boxes_size w a k v r h (.slice none 0 0)
  have ho0:=boxes_only w a k v r h (.slice none 0 0)
  rw [hW0] at hW hz ho0 hB1 hB2
  have hS1:=Strs.one W0 it hit
  rw [hz] at hS1
  have hS3:=(hS1.more (onlyA _ _)).more hW
  have hlt:w.heap.size+1+1+1 < ((W0.alloc (.cells #[.string it] 9)).alloc (.cells #[.slice none 0 0,.slice (some ⟨w.heap.size+1+1,0,none⟩) 1 1,.slice none 0 0] 22)).heap.size:=by simp; omega
  have hz1:(W0.alloc (.cells #[.string it] 9)).heap.size=w.heap.size+1+1+1:=by simp; omega
  have hc:∀ j (x:Value),#[Value.slice none 0 0,.slice (some ⟨w.heap.size+1+1,0,none⟩) 1 1,.slice none 0 0][j]?=some x→W.cell? ⟨w.heap.size+1+1+1,j,none⟩=some x:=by
    intro j x hx
    rw [hW.cell (p:=⟨w.heap.size+1+1+1,j,none⟩) hlt (fun h=>h),← hz1]
    simpa using hx
  have f0:Fit none 0 0:=⟨fun _=>rfl,Nat.le_refl _,(by unfold maxLen; omega)⟩
  have key:=cat3 W (w.heap.size+1+1+1) none (some ⟨w.heap.size+1+1,0,none⟩) none 0 1 0 0 (w.heap.size+1+1) 0 0 1 0 [] [it] []
    rfl rfl rfl (hc 0 _ rfl) (hc 1 _ rfl) (hc 2 _ rfl) (Strs.nil _ _ _) hS3 (Strs.nil _ _ _) f0 ⟨(fun h=>by cases h),by omega,(by unfold maxLen; omega)⟩ f0 (Nat.lt_of_lt_of_le hlt hW.size) (by omega)
  refine Calls.mono key ?_
  rintro e w5 ⟨v5,rfl,hl5,ho5⟩
  have e3:([]:List ByteArray)++[it]++[]=[it]:=rfl
  rw [e3] at hl5
  obtain ⟨B5,ao5,cp5,rfl,hS5,hF5,hB5,_⟩:=hl5.strs (by simp) (fun s hs=>by simp at hs; rw [hs]; exact hit)
  have hoo:=o2 (o2 (onlyA W0 (.cells #[.string it] 9)) (onlyA _ _)) (o2 hW ho5)
  have hP:=hB1.more hoo
  have hWs:=hW.size
  exact ⟨B5,ao5,cp5,rfl,hP.c5,hP.f5,⟨hP,hB2.more hoo,hS5,hF5,o2 ho0 hoo,fun h=>by have:=hB5 h; omega⟩⟩
set_option maxHeartbeats 1600000 in
theorem put_none (w:World) (a k v r:Int) (h:ByteArray) (it:ByteArray) (hh:h.size≤140737488355328) (hit:it.size≤140737488355328) :
    Calls Tryz.prog 85 #[.agg #[.int .i64 a,.int .i64 k,.int .i64 v,.int .i64 r,.string h,.slice none 0 0],.int .i64 0,.string it] w fun e w'=>
      Or3 w w' e (255 < [it].length∨512 < 20+h.size+isz [it]) ⟨a,k,v,r,h,[it]⟩:=by
  have HCAT:=hide (put_cat0 w a k v r h it hit)
  obtain ⟨nl,hnl⟩:=exq ([it])
  rw [hnl] at HCAT ⊢
  clear hnl
  go_enter Tryz.func85,Tryz.ntmps85
  go_upto_region 3 with fail
  go_cut [29] (fun t wc=>∃ B5 ao5 cp5,t=.slice ao5 nl.length cp5∧Hid (Aft w wc a k v r h (.slice ao5 nl.length cp5) B5 ao5 cp5 nl))
  case first=>
    go_region_with (
      go_at_call 114
      refine (HCAT.out _ (Only.drew _ _)).mono ?_
      rintro e w5 ⟨B5,ao5,cp5,rfl,p5,g5,HA⟩)
    all_goals (go_wp2_with fail; go_meet; exact ⟨B5,ao5,cp5,rfl,hide (HA.out.store _)⟩)
  case rest=>
    obtain ⟨B5,ao5,cp5,rfl,HA⟩:=hcut
    obtain ⟨p0,p1,p2,p3,p4,p5,g0,g1,g2,g3,g4,g5,gl⟩:=HA.out.one
    go_wp2_with fail
    refine (fitting_any _ a k v r h B5 cp5 ao5 nl HA.out.strs hh).mono ?_
    rintro e w6 ⟨rfl,ho6⟩
    have HA6:=hide (HA.out.more ho6)
    obtain ⟨q0,q1,q2,q3,q4,q5,t0,t1,t2,t3,t4,t5,tl⟩:=HA6.out.two
    have HQ6:=hide HA6.out.two
    clear ho6 p0 p1 p2 p3 p4 p5 g0 g1 g2 g3 g4 g5 gl
    by_cases hc:255 < nl.length∨512 < 20+h.size+isz nl
    · rw [if_pos hc]
      have HC:=hide hc
      clear hc
      go_wp2_with fail
      refine bodyPost_ret (results_page rfl rfl (Pag.six HQ6.out _ _ _ _ _ _)) rfl ?_
      exact Or3.yes HC.out (Res.none 3 (HA6.out.res _ _ _ _ _ _ 0 _ rfl).2)
    · rw [if_neg hc]
      have HC:=hide hc
      clear hc
      go_wp2_with fail
      refine bodyPost_ret (results_page rfl rfl (Pag.six HQ6.out _ _ _ _ _ _)) rfl ?_
      exact Or3.no HC.out (HA6.out.res _ _ _ _ _ _ 0 _ rfl).1
theorem put_cat1 (w:World) (a k v r:Int) (h:ByteArray) (A:Addr) (cp:Nat) (hbig:cp≤maxLen) (it:ByteArray) (hit:it.size≤140737488355328) (W:World)
    (hW:Only (fun _=>False) (((boxes w a k v r h (.slice (some A) 0 cp)).alloc (.cells #[.string it] 9)).alloc (.cells #[.slice (some A) 0 cp,.slice (some ⟨w.heap.size+1+1,0,none⟩) 1 1,.slice (some A) 0 cp] 22)) W) :
    Calls Tryz.prog 114 #[.slice (some ⟨w.heap.size+1+1+1,0,none⟩) 3 3] W fun e w'=>∃ B5 ao5 cp5,e=.returned (.slice ao5 [it].length cp5)∧w'.cell? ⟨w.heap.size,5,none⟩=some (.slice (some A) 0 cp)∧w'.frozen? ⟨w.heap.size,5,none⟩=false∧Hid (Aft w w' a k v r h (.slice (some A) 0 cp) B5 ao5 cp5 [it]):=by
  have hB1:=boxes_one w a k v r h (.slice (some A) 0 cp)
  have hB2:=boxes_two w a k v r h (.slice (some A) 0 cp)
  obtain ⟨W0,hW0⟩:=exq (boxes w a k v r h (.slice (some A) 0 cp))
  have hz:=boxes_size w a k v r h (.slice (some A) 0 cp)
  have ho0:=boxes_only w a k v r h (.slice (some A) 0 cp)
  rw [hW0] at hW hz ho0 hB1 hB2
  have hS1:=Strs.one W0 it hit
  rw [hz] at hS1
  have hS3:=(hS1.more (onlyA _ _)).more hW
  have hlt:w.heap.size+1+1+1 < ((W0.alloc (.cells #[.string it] 9)).alloc (.cells #[.slice (some A) 0 cp,.slice (some ⟨w.heap.size+1+1,0,none⟩) 1 1,.slice (some A) 0 cp] 22)).heap.size:=by simp; omega
  have hz1:(W0.alloc (.cells #[.string it] 9)).heap.size=w.heap.size+1+1+1:=by simp; omega
  have hc:∀ j (x:Value),#[Value.slice (some A) 0 cp,.slice (some ⟨w.heap.size+1+1,0,none⟩) 1 1,.slice (some A) 0 cp][j]?=some x→W.cell? ⟨w.heap.size+1+1+1,j,none⟩=some x:=by
    intro j x hx
    rw [hW.cell (p:=⟨w.heap.size+1+1+1,j,none⟩) hlt (fun h=>h),← hz1]
    simpa using hx
  have f0:Fit (some A) 0 cp:=⟨(fun h=>by cases h),Nat.zero_le _,hbig⟩
  have key:=cat3 W (w.heap.size+1+1+1) (some A) (some ⟨w.heap.size+1+1,0,none⟩) (some A) cp 1 cp 0 (w.heap.size+1+1) 0 0 1 0 [] [it] []
    rfl rfl rfl (hc 0 _ rfl) (hc 1 _ rfl) (hc 2 _ rfl) (Strs.nil _ _ _) hS3 (Strs.nil _ _ _) f0 ⟨(fun h=>by cases h),by omega,(by unfold maxLen; omega)⟩ f0 (Nat.lt_of_lt_of_le hlt hW.size) (by omega)
  refine Calls.mono key ?_
  rintro e w5 ⟨v5,rfl,hl5,ho5⟩
  have e3:([]:List ByteArray)++[it]++[]=[it]:=rfl
  rw [e3] at hl5
  obtain ⟨B5,ao5,cp5,rfl,hS5,hF5,hB5,_⟩:=hl5.strs (by simp) (fun s hs=>by simp at hs; rw [hs]; exact hit)
  have hoo:=o2 (o2 (onlyA W0 (.cells #[.string it] 9)) (onlyA _ _)) (o2 hW ho5)
  have hP:=hB1.more hoo
  have hWs:=hW.size
  exact ⟨B5,ao5,cp5,rfl,hP.c5,hP.f5,⟨hP,hB2.more hoo,hS5,hF5,o2 ho0 hoo,fun h=>by have:=hB5 h; omega⟩⟩
set_option maxHeartbeats 1600000 in
theorem put_emp (w:World) (a k v r:Int) (h:ByteArray) (A:Addr) (cp:Nat) (hbig:cp≤maxLen) (it:ByteArray) (hh:h.size≤140737488355328) (hit:it.size≤140737488355328) :
    Calls Tryz.prog 85 #[.agg #[.int .i64 a,.int .i64 k,.int .i64 v,.int .i64 r,.string h,.slice (some A) 0 cp],.int .i64 0,.string it] w fun e w'=>
      Or3 w w' e (255 < [it].length∨512 < 20+h.size+isz [it]) ⟨a,k,v,r,h,[it]⟩:=by
  have HCAT:=hide (put_cat1 w a k v r h A cp hbig it hit)
  obtain ⟨nl,hnl⟩:=exq ([it])
  rw [hnl] at HCAT ⊢
  clear hnl
  have hadd:A.add 0=A:=by unfold Addr.add; simp
  have hcp0:(0:Int)≤(cp:Int):=by omega
  unfold maxLen at hbig
  go_enter Tryz.func85,Tryz.ntmps85
  go_upto_region 3 with fail
  go_cut [29] (fun t wc=>∃ B5 ao5 cp5,t=.slice ao5 nl.length cp5∧Hid (Aft w wc a k v r h (.slice ao5 nl.length cp5) B5 ao5 cp5 nl))
  case first=>
    go_region_with (
      go_at_call 114
      refine (HCAT.out _ (Only.drew _ _)).mono ?_
      rintro e w5 ⟨B5,ao5,cp5,rfl,p5,g5,HA⟩)
    all_goals (go_wp2_with fail; go_meet; exact ⟨B5,ao5,cp5,rfl,hide (HA.out.store _)⟩)
  case rest=>
    obtain ⟨B5,ao5,cp5,rfl,HA⟩:=hcut
    obtain ⟨p0,p1,p2,p3,p4,p5,g0,g1,g2,g3,g4,g5,gl⟩:=HA.out.one
    go_wp2_with fail
    refine (fitting_any _ a k v r h B5 cp5 ao5 nl HA.out.strs hh).mono ?_
    rintro e w6 ⟨rfl,ho6⟩
    have HA6:=hide (HA.out.more ho6)
    obtain ⟨q0,q1,q2,q3,q4,q5,t0,t1,t2,t3,t4,t5,tl⟩:=HA6.out.two
    have HQ6:=hide HA6.out.two
    clear ho6 p0 p1 p2 p3 p4 p5 g0 g1 g2 g3 g4 g5 gl
    by_cases hc:255 < nl.length∨512 < 20+h.size+isz nl
    · rw [if_pos hc]
      have HC:=hide hc
      clear hc
      go_wp2_with fail
      refine bodyPost_ret (results_page rfl rfl (Pag.six HQ6.out _ _ _ _ _ _)) rfl ?_
      exact Or3.yes HC.out (Res.none 3 (HA6.out.res _ _ _ _ _ _ 0 _ rfl).2)
    · rw [if_neg hc]
      have HC:=hide hc
      clear hc
      go_wp2_with fail
      refine bodyPost_ret (results_page rfl rfl (Pag.six HQ6.out _ _ _ _ _ _)) rfl ?_
      exact Or3.no HC.out (HA6.out.res _ _ _ _ _ _ 0 _ rfl).1
theorem put_any (w:World) (a k v r:Int) (h:ByteArray) (B cp:Nat) (ao:Option Addr) (l:List ByteArray) (i:Nat) (it:ByteArray) (hS:Strs w B ao l) (hF:Fit ao l.length cp) (hh:h.size≤140737488355328) (hit:it.size≤140737488355328) (hi:i≤l.length) (hlm:l.length≤8796093021952) :
    Calls Tryz.prog 85 #[.agg #[.int .i64 a,.int .i64 k,.int .i64 v,.int .i64 r,.string h,.slice ao l.length cp],.int .i64 (i:Int),.string it] w fun e w'=>
      Or3 w w' e (255 < (l.take i++it :: l.drop i).length∨512 < 20+h.size+isz (l.take i++it :: l.drop i)) ⟨a,k,v,r,h,l.take i++it :: l.drop i⟩:=by
  by_cases h0:l.length=0
  · have e:l=[]:=List.eq_nil_of_length_eq_zero h0
    subst e
    have e2:i=0:=by simpa using hi
    subst e2
    cases ao with
    | none=>
      have e3:=hF.nil rfl
      subst e3
      exact put_none w a k v r h it hh hit
    | some A=>exact put_emp w a k v r h A cp hF.big it hh hit
  · obtain ⟨o,e,_⟩:=hS.at_ (by omega)
    subst e
    exact put_some w a k v r h B B o cp l i it hS hF hh hit hi hlm
end Go.Proofs.YtipkeeobmihogaaGreat
namespace Go.Proofs.YtipkeeobmihogaaGreat
open Go.RowKit
theorem Or3.any {w w':World} {e:Ending} {c:Prop} {P:Pg} (h:Or3 w w' e c P):∃ p k,Res w w' e p k∧((c∧p=.none∧k=3)∨(¬ c∧p=P∧k=0)):=by
  by_cases hc:c
  · exact ⟨_,_,h.1 hc,.inl ⟨hc,rfl,rfl⟩⟩
  · exact ⟨_,_,h.2 hc,.inr ⟨hc,rfl,rfl⟩⟩
theorem ins_new (w:World) (v0 v1 v2 v3 v4 v5:Value) (e:En):Pag (((w.alloc (.cells #[v0,v1,v2,v3,v4,v5] 24)).alloc (.cells #[.string e.key,.int .i64 e.page,.int .i64 e.slot] 41)).alloc (.cells #[.int .i64 0,.int .i64 0,.int .i64 0,.int .i64 0,.string ⟨#[]⟩,.slice none 0 0] 24)) w.heap.size v0 v1 v2 v3 v4 v5∧Ev (((w.alloc (.cells #[v0,v1,v2,v3,v4,v5] 24)).alloc (.cells #[.string e.key,.int .i64 e.page,.int .i64 e.slot] 41)).alloc (.cells #[.int .i64 0,.int .i64 0,.int .i64 0,.int .i64 0,.string ⟨#[]⟩,.slice none 0 0] 24)) (w.heap.size+1) e∧Pag (((w.alloc (.cells #[v0,v1,v2,v3,v4,v5] 24)).alloc (.cells #[.string e.key,.int .i64 e.page,.int .i64 e.slot] 41)).alloc (.cells #[.int .i64 0,.int .i64 0,.int .i64 0,.int .i64 0,.string ⟨#[]⟩,.slice none 0 0] 24)) (w.heap.size+1+1) (.int .i64 0) (.int .i64 0) (.int .i64 0) (.int .i64 0) (.string ⟨#[]⟩) (.slice none 0 0)∧Only (fun _=>False) w (((w.alloc (.cells #[v0,v1,v2,v3,v4,v5] 24)).alloc (.cells #[.string e.key,.int .i64 e.page,.int .i64 e.slot] 41)).alloc (.cells #[.int .i64 0,.int .i64 0,.int .i64 0,.int .i64 0,.string ⟨#[]⟩,.slice none 0 0] 24)):=by
  obtain ⟨h1,h2,h3⟩:=pe_new w v0 v1 v2 v3 v4 v5 e
  refine ⟨h1.more (onlyA _ _),h2.more (onlyA _ _),?_,o2 h3 (onlyA _ _)⟩
  have e1:=Pag.new ((w.alloc (.cells #[v0,v1,v2,v3,v4,v5] 24)).alloc (.cells #[.string e.key,.int .i64 e.page,.int .i64 e.slot] 41)) (.int .i64 0) (.int .i64 0) (.int .i64 0) (.int .i64 0) (.string ⟨#[]⟩) (.slice none 0 0)
  rw [World.size_alloc,World.size_alloc] at e1
  exact e1
theorem resSix {w W5 W6:World} {p:Pg} {k:Int} {B cp:Nat} {ao:Option Addr} (hS:Strs W6 B ao p.items) (hF:Fit ao p.items.length cp) (ho:Only (fun _=>False) W5 W6) (hB:0 < p.items.length→W5.heap.size≤B) (hw:Only (fun _=>False) w W5) (rb:Nat) (h1:w.heap.size≤rb) (h2:rb < W5.heap.size) (v0 v1 v2 v3 v4 v5:Value) :
    Res w ((((((W6.setCell ⟨rb,0,none⟩ v0).setCell ⟨rb,1,none⟩ v1).setCell ⟨rb,2,none⟩ v2).setCell ⟨rb,3,none⟩ v3).setCell ⟨rb,4,none⟩ v4).setCell ⟨rb,5,none⟩ v5) (.returned (.tuple #[.agg #[.int .i64 p.lsn,.int .i64 p.kind,.int .i64 p.level,.int .i64 p.right,.string p.high,.slice ao p.items.length cp],.int .i64 k])) p k:=by
  have h6:=Only.six W6 rb v0 v1 v2 v3 v4 v5
  exact ⟨B,ao,cp,rfl,hS.kept h6 (fun h=>by have:=hB h; omega),hF,(o2 hw ho).trans h6 (fun i hi e=>by omega),fun h=>by have:=hB h; have:=hw.size; omega⟩
theorem resErr {w W:World} {c:Int} (rb:Nat) (hw:Only (fun _=>False) w W) (h1:w.heap.size≤rb):Res w ((((((W.setCell ⟨rb,0,none⟩ (.int .i64 0)).setCell ⟨rb,1,none⟩ (.int .i64 0)).setCell ⟨rb,2,none⟩ (.int .i64 0)).setCell ⟨rb,3,none⟩ (.int .i64 0)).setCell ⟨rb,4,none⟩ (.string ⟨#[]⟩)).setCell ⟨rb,5,none⟩ (.slice none 0 0)) (.returned (.tuple #[.agg #[.int .i64 0,.int .i64 0,.int .i64 0,.int .i64 0,.string ⟨#[]⟩,.slice none 0 0],.int .i64 c])) .none c :=
  Res.none c (hw.trans (Only.six W rb _ _ _ _ _ _) (fun i hi e=>by omega))
def insI (l:List ByteArray) (es:List En) (e:En):List ByteArray:=l.take (plE es e)++e.enc :: l.drop (plE es e)
structure InsQ (w w':World) (x:Ending) (a r:Int) (h:ByteArray) (hi e:En) (l:List ByteArray) (es:List En):Prop where
  bad:(e.ok=false∨byd hi e=true∨e ∈ es)→Res w w' x .none 140
  good:e.ok=true→byd hi e=false→e ∉ es→Or3 w w' x (255 < (insI l es e).length∨512 < 20+h.size+isz (insI l es e)) ⟨a,3,0,r,h,insI l es e⟩
theorem HiIs.size {h:ByteArray} {hi:En} (x:HiIs h hi):h.size≤45:=by
  rcases x with ⟨rfl,_⟩ | ⟨rfl,ho⟩
  · decide
  · have:=lay_len (En.few_ok ho).1
    rw [← bl_len,bl_enc]
    exact this
theorem enc_size {e:En} (h:e.ok=true):e.enc.size≤45:=by
  rw [← bl_len,bl_enc]
  exact lay_len (En.few_ok h).1
set_option maxHeartbeats 3200000 in
theorem insert_ok (w:World) (a r:Int) (h:ByteArray) (hi e:En) (B cp:Nat) (ao:Option Addr) (l:List ByteArray) (es:List En) (hP:Lp w r h hi B ao l es) (hF:Fit ao l.length cp) :
    Calls Tryz.prog 39 #[.agg #[.int .i64 a,.int .i64 3,.int .i64 0,.int .i64 r,.string h,.slice ao l.length cp],e.agg] w fun x w'=>InsQ w w' x a r h hi e l es:=by
  have HX:=hide (ins_new w (.int .i64 a) (.int .i64 3) (.int .i64 0) (.int .i64 r) (.string h) (.slice ao l.length cp) e)
  have HR:=hide ((hP.more HX.out.2.2.2).read a cp)
  have HIE:Hid (∀ W,Calls Tryz.prog 60 #[.agg #[.string e.key,.int .i64 e.page,.int .i64 e.slot]] W fun x w'=>x=.returned (.bool e.ok)∧Only (fun _=>False) W w'):=fun W=>isEntry_any e W
  have HBY:Hid (∀ W (A1 A2:Option Addr) (n1 n2 C1 C2:Nat),Calls Tryz.prog 83 #[.agg #[.slice A1 n1 C1,.slice A2 n2 C2,.string hi.key,.int .i64 hi.page,.int .i64 hi.slot],.agg #[.string e.key,.int .i64 e.page,.int .i64 e.slot]] W fun x w'=>x=.returned (.bool (byd hi e))∧Only (fun _=>False) W w'):=fun W A1 A2 n1 n2 C1 C2=>isBeyond_any W A1 A2 n1 n2 C1 C2 hi e
  have HPL:Hid (∀ (W:World) (A1 A2:Option Addr) (n1 n2 C1 C2:Nat) (base:Nat),Ets W base (.slice A1 n1 C1) es→Calls Tryz.prog 84 #[.agg #[.slice A1 n1 C1,.slice A2 n2 C2,.string hi.key,.int .i64 hi.page,.int .i64 hi.slot],.agg #[.string e.key,.int .i64 e.page,.int .i64 e.slot]] W fun x w'=>x=.returned (.tuple #[.int .i64 (plE es e:Int),.bool (decide (e ∈ es))])∧Only (fun _=>False) W w'):=fun W A1 A2 n1 n2 C1 C2 base hE=>by
    obtain ⟨B1,hels,hln⟩:=hE.elsOf
    exact place_any W B1 n1 C1 A1 A2 n2 C2 hi es e hels hln (by have:=hP.len; omega) hP.lf.rise
  have HLD:Hid (e.ok=true→∀ W,Calls Tryz.prog 65 #[.agg #[.string e.key,.int .i64 e.page,.int .i64 e.slot],.slice none 0 0] W fun x w'=>x=.returned (.string e.enc)∧Only (fun _=>False) W w'):=fun he W=>laid_one e W (En.few_ok he)
  have HPT:Hid (e.ok=true→∀ W,Only (fun _=>False) w W→Calls Tryz.prog 85 #[.agg #[.int .i64 a,.int .i64 3,.int .i64 0,.int .i64 r,.string h,.slice ao l.length cp],.int .i64 (plE es e:Int),.string e.enc] W fun x w'=>∃ p k,Res W w' x p k∧(((255 < (insI l es e).length∨512 < 20+h.size+isz (insI l es e))∧p=.none∧k=3)∨(¬ (255 < (insI l es e).length∨512 < 20+h.size+isz (insI l es e))∧p=⟨a,3,0,r,h,insI l es e⟩∧k=0))):=fun he W ho=>
    (put_any W a 3 0 r h B cp ao l (plE es e) e.enc (hP.strs.more ho) hF (by have:=hP.high.size; omega) (by have:=enc_size he; omega) (by have:=plE_le es e; have:=hP.lf.len; omega) (by have:=hP.few; omega)).mono (fun x w' hq=>hq.any)
  clear hP hF
  obtain ⟨K,hK⟩:∃ K:Int,(plE es e:Int)=K:=⟨_,rfl⟩
  obtain ⟨O,hO⟩:=exq (e.ok)
  obtain ⟨Y,hY⟩:=exq (byd hi e)
  obtain ⟨D,hD⟩:=exq (decide (e ∈ es))
  obtain ⟨E,hE⟩:=exq (e.enc)
  rw [hK,hD] at HPL
  rw [hO] at HIE HLD HPT
  rw [hY] at HBY
  rw [hE] at HLD
  rw [hK,hE] at HPT
  have HOY:=hide (And.intro hO (And.intro hY hD))
  clear hK hO hY hD hE
  unfold En.agg
  go_enter Tryz.func39,Tryz.ntmps39
  go_upto_region 1 with fail
  obtain ⟨W0,hW0⟩:=exq (((w.alloc (.cells #[.int .i64 a,.int .i64 3,.int .i64 0,.int .i64 r,.string h,.slice ao l.length cp] 24)).alloc (.cells #[.string e.key,.int .i64 e.page,.int .i64 e.slot] 41)).alloc (.cells #[.int .i64 0,.int .i64 0,.int .i64 0,.int .i64 0,.string ⟨#[]⟩,.slice none 0 0] 24))
  rw [hW0] at HX HR ⊢
  clear hW0
  obtain ⟨p0,p1,p2,p3,p4,p5,_⟩:=HX.out.1
  go_wp2_with fail
  refine HR.out.mono ?_
  rintro x w1 ⟨A,C,rfl,he,ho⟩
  unfold cvv
  have HP1:=hide (HX.out.1.more ho)
  have HV1:=hide (HX.out.2.1.more ho)
  have HQ1:=hide (HX.out.2.2.1.more ho)
  have HO1:=hide (o2 HX.out.2.2.2 ho)
  have HE1:=hide he
  clear he ho p0 p1 p2 p3 p4 p5 HR HX
  go_upto_region 2 with fail
  have HA:=hide (onlyA w1 (.cells #[.slice A es.length C,.slice none 0 0,.string hi.key,.int .i64 hi.page,.int .i64 hi.slot] 85))
  have HC:=hide (Cv.new w1 (.slice A es.length C) (.slice none 0 0) hi)
  obtain ⟨cb,hcb⟩:=exq (w1.heap.size)
  rw [hcb] at HC ⊢
  clear hcb
  obtain ⟨w2,hw2⟩:=exq (w1.alloc (.cells #[.slice A es.length C,.slice none 0 0,.string hi.key,.int .i64 hi.page,.int .i64 hi.slot] 85))
  rw [hw2] at HA HC ⊢
  clear hw2
  have HP2:=hide (HP1.out.more HA.out)
  have HV2:=hide (HV1.out.more HA.out)
  have HQ2:=hide (HQ1.out.more HA.out)
  have HO2:=hide (o2 HO1.out HA.out)
  have HE2:=hide (HE1.out.more HA.out)
  clear HA HP1 HV1 HQ1 HO1 HE1
  obtain ⟨d0,d1,d2,_⟩:=HV2.out
  go_wp2_with fail
  refine (HIE.out _).mono ?_
  rintro x w3 ⟨rfl,ho⟩
  have HP3:=hide (HP2.out.more ho)
  have HV3:=hide (HV2.out.more ho)
  have HQ3:=hide (HQ2.out.more ho)
  have HC3:=hide (HC.out.more ho)
  have HO3:=hide (o2 HO2.out ho)
  have HE3:=hide (HE2.out.more ho)
  clear ho d0 d1 d2 HP2 HV2 HQ2 HC HO2 HE2
  cases O with
  | false=>
    clear HLD HPT HPL
    obtain ⟨q0,q1,q2,q3,q4,q5,g0,g1,g2,g3,g4,g5,ql⟩:=HQ3.out
    go_wp2_with fail
    refine bodyPost_ret (results_page rfl rfl (Pag.six HQ3.out _ _ _ _ _ _)) rfl ?_
    exact ⟨fun _=>resErr _ HO3.out (by omega),fun h1=>by rw [HOY.out.1] at h1; cases h1⟩
  | true=>
    have HLD0:=hide (HLD.out rfl)
    have HPT0:=hide (HPT.out rfl)
    clear HLD HPT
    obtain ⟨d0,d1,d2,_⟩:=HV3.out
    obtain ⟨q0,q1,q2,q3,q4,_⟩:=HC3.out
    go_wp2_with fail
    refine (HBY.out _ _ _ _ _ _ _).mono ?_
    rintro x w4 ⟨rfl,ho⟩
    have HP4:=hide (HP3.out.more ho)
    have HV4:=hide (HV3.out.more ho)
    have HQ4:=hide (HQ3.out.more ho)
    have HC4:=hide (HC3.out.more ho)
    have HO4:=hide (o2 HO3.out ho)
    have HE4:=hide (HE3.out.more ho)
    clear ho d0 d1 d2 q0 q1 q2 q3 q4 HP3 HV3 HQ3 HC3 HO3 HE3
    cases Y with
    | true=>
      clear HPL HLD0 HPT0
      obtain ⟨q0,q1,q2,q3,q4,q5,g0,g1,g2,g3,g4,g5,ql⟩:=HQ4.out
      go_wp2_with fail
      refine bodyPost_ret (results_page rfl rfl (Pag.six HQ4.out _ _ _ _ _ _)) rfl ?_
      exact ⟨fun _=>resErr _ HO4.out (by omega),fun _ h1=>by rw [HOY.out.2.1] at h1; cases h1⟩
    | false=>
      obtain ⟨d0,d1,d2,_⟩:=HV4.out
      obtain ⟨q0,q1,q2,q3,q4,_⟩:=HC4.out
      have HPL1:=hide (HPL.out w4 A none es.length 0 C 0 _ HE4.out)
      clear HPL
      go_wp2_with fail
      refine HPL1.out.mono ?_
      rintro x w5 ⟨rfl,ho⟩
      have HP5:=hide (HP4.out.more ho)
      have HV5:=hide (HV4.out.more ho)
      have HQ5:=hide (HQ4.out.more ho)
      have HO5:=hide (o2 HO4.out ho)
      clear ho d0 d1 d2 q0 q1 q2 q3 q4 HP4 HV4 HQ4 HC4 HO4 HE4 HPL1
      cases D with
      | true=>
        clear HLD0 HPT0
        obtain ⟨q0,q1,q2,q3,q4,q5,g0,g1,g2,g3,g4,g5,ql⟩:=HQ5.out
        go_wp2_with fail
        refine bodyPost_ret (results_page rfl rfl (Pag.six HQ5.out _ _ _ _ _ _)) rfl ?_
        exact ⟨fun _=>resErr _ HO5.out (by omega),fun _ _ h1=>absurd (of_decide_eq_true HOY.out.2.2) h1⟩
      | false=>
        go_upto_region 7 with fail
        -- {r7
        refine wp_region_noPanic ?_
        refine wp_region_held_drew (S:=fun W=>Only (fun k=>k=w.heap.size+1+1) w5 W) (by kernel_rfl) (Only.drew _ _) (fun hHeld=>?_)
        refine tkQ 0 (.agg #[.int .i64 a,.int .i64 3,.int .i64 0,.int .i64 r,.string h,.slice ao l.length cp]) rfl (yieldsIf_load_page (by rfl) _ rfl _ rfl (fun W hW=>HP5.out.kept hW (by omega))) ?_
        refine tkP 1 (.int .i64 K) rfl ?_
        refine tkQ 2 (.agg #[.string e.key,.int .i64 e.page,.int .i64 e.slot]) rfl (yieldsIf_load_ev (by rfl) _ rfl rfl (fun W hW=>HV5.out.kept hW (by omega))) ?_
        refine rd1 3 rfl (fun K hK=>?_)
        go_simp
        refine (HLD0.out _).mono ?_
        rintro x x1 ⟨rfl,hx1⟩
        have HX1:=hide (o2 (Only.drew _ w5) hx1)
        clear hx1
        refine hK.out _ _ (HX1.out.mono (fun _ _ h=>h.elim)) (fun hHeld=>?_)
        clear hK K
        try simp only [Act.put,lsA,lsB,lsC]
        refine rd1 4 rfl (fun K hK=>?_)
        go_simp
        refine (HPT0.out _ (o2 HO5.out HX1.out)).mono ?_
        rintro x x2 ⟨p,k,⟨B5,ao5,cp5,rfl,hS5,hF5,ho5,hB5⟩,hpk⟩
        have HX2:=hide ho5
        have HS7:=hide (And.intro hS5 (And.intro hF5 hB5))
        have HPK:=hide hpk
        have HQ7:=hide (HQ5.out.more (o2 HX1.out HX2.out))
        have HZ7:Hid (w.heap.size+1+1 < x1.heap.size):=(HQ5.out.more HX1.out).lt
        obtain ⟨q0,q1,q2,q3,q4,q5,g0,g1,g2,g3,g4,g5,ql⟩:=HQ7.out
        clear hS5 hF5 ho5 hB5 hpk
        refine hK.out _ _ ((o2 HX1.out HX2.out).mono (fun _ _ h=>h.elim)) (fun hHeld=>?_)
        clear hK K
        try simp only [Act.put,lsA,lsB,lsC]
        refine tkP 5 (.agg #[.int .i64 p.lsn,.int .i64 p.kind,.int .i64 p.level,.int .i64 p.right,.string p.high,.slice ao5 p.items.length cp5]) rfl ?_
        refine tkP 6 (.int .i64 k) rfl ?_
        refine rd1 7 rfl (fun K hK=>?_)
        go_simp
        refine hK.out _ _ (((o2 HX1.out HX2.out).mono (fun _ _ h=>h.elim)).trans (Only.six x2 (w.heap.size+1+1) _ _ _ _ _ _) (fun _ _ h=>h)) (fun hHeld=>?_)
        clear hK K
        try simp only [Act.put,lsA,lsB,lsC]
        refine tkP 8 (.int .i64 k) rfl ?_
        refine dnN ?_
        -- r7}
        go_wp2_with fail
        refine bodyPost_ret (results_page rfl rfl (Pag.six HQ7.out _ _ _ _ _ _)) rfl ?_
        have hres:=resSix (k:=k) HS7.out.1 HS7.out.2.1 HX2.out HS7.out.2.2 (o2 HO5.out HX1.out) (w.heap.size+1+1) (by omega) HZ7.out (.int .i64 p.lsn) (.int .i64 p.kind) (.int .i64 p.level) (.int .i64 p.right) (.string p.high) (.slice ao5 p.items.length cp5)
        refine ⟨fun h1=>?_,fun _ _ _=>?_⟩
        · exfalso
          rcases h1 with h1 | h1 | h1
          · rw [HOY.out.1] at h1; cases h1
          · rw [HOY.out.2.1] at h1; cases h1
          · exact of_decide_eq_false HOY.out.2.2 h1
        · rcases HPK.out with ⟨hc,e1,e2⟩ | ⟨hc,e1,e2⟩
          · subst e1 e2
            exact Or3.yes hc hres
          · subst e1 e2
            exact Or3.no hc hres
theorem results_page1 {fn:Func} {p:Tmp} (h:fn.results=#[.cell p 24]) {tmps:Array Value} {w:World} {b:Nat} {v0 v1 v2 v3 v4 v5:Value} (hp:tmps.getD p undef=.pointer (some ⟨b,0,none⟩)) (hP:Pag w b v0 v1 v2 v3 v4 v5) :
    (results fn tmps).run Tryz.prog w=.ok (.agg #[v0,v1,v2,v3,v4,v5]) w:=by
  have e:(asAddr (.pointer (some ⟨b,0,none⟩))).run Tryz.prog w=.ok ⟨b,0,none⟩ w:=rfl
  have hp':tmps[p]?.getD undef=.pointer (some ⟨b,0,none⟩):=by simpa using hp
  simp only [results,h]
  simp [Sem.run_bind,Result.andThen,hp',e,load_page hP]
theorem leaf_any (w:World):Calls Tryz.prog 29 #[] w fun x w'=>x=.returned (.agg #[.int .i64 0,.int .i64 3,.int .i64 0,.int .i64 0,.string ⟨#[]⟩,.slice none 0 0])∧Only (fun _=>False) w w':=by
  have HP:=hide (Pag.new w (.int .i64 0) (.int .i64 3) (.int .i64 0) (.int .i64 0) (.string ⟨#[]⟩) (.slice none 0 0))
  have HO:=hide (onlyA w (.cells #[.int .i64 0,.int .i64 3,.int .i64 0,.int .i64 0,.string ⟨#[]⟩,.slice none 0 0] 24))
  go_enter Tryz.func29,Tryz.ntmps29
  go_wp2_with fail
  refine bodyPost_ret (results_page1 rfl rfl HP.out) rfl ?_
  exact ⟨rfl,HO.out⟩
theorem results_split {fn:Func} {p q s u:Tmp} (h:fn.results=#[.cell p 24,.cell q 24,.cell s 41,.tmp u]) {tmps:Array Value} {w:World} {b c d:Nat} {v0 v1 v2 v3 v4 v5 u0 u1 u2 u3 u4 u5:Value} {e:En} (hp:tmps.getD p undef=.pointer (some ⟨b,0,none⟩)) (hq:tmps.getD q undef=.pointer (some ⟨c,0,none⟩)) (hs:tmps.getD s undef=.pointer (some ⟨d,0,none⟩)) (hP:Pag w b v0 v1 v2 v3 v4 v5) (hQ:Pag w c u0 u1 u2 u3 u4 u5) (hE:Ev w d e) :
    (results fn tmps).run Tryz.prog w=.ok (.tuple #[.agg #[v0,v1,v2,v3,v4,v5],.agg #[u0,u1,u2,u3,u4,u5],e.agg,tmps.getD u undef]) w:=by
  have e1:∀ x,(asAddr (.pointer (some ⟨x,0,none⟩))).run Tryz.prog w=.ok ⟨x,0,none⟩ w:=fun x=>rfl
  have hp':tmps[p]?.getD undef=.pointer (some ⟨b,0,none⟩):=by simpa using hp
  have hq':tmps[q]?.getD undef=.pointer (some ⟨c,0,none⟩):=by simpa using hq
  have hs':tmps[s]?.getD undef=.pointer (some ⟨d,0,none⟩):=by simpa using hs
  simp only [results,h]
  simp [Sem.run_bind,Result.andThen,hp',hq',hs',e1,load_page hP,load_page hQ,load_ev hE]
structure Sv (w W:World) (a r:Int) (h:ByteArray) (ao:Option Addr) (n cp:Nat):Prop where
  pag:Pag W w.heap.size (.int .i64 a) (.int .i64 3) (.int .i64 0) (.int .i64 r) (.string h) (.slice ao n cp)
  r1:Pag W (w.heap.size+1) (.int .i64 0) (.int .i64 0) (.int .i64 0) (.int .i64 0) (.string ⟨#[]⟩) (.slice none 0 0)
  r2:Pag W (w.heap.size+1+1) (.int .i64 0) (.int .i64 0) (.int .i64 0) (.int .i64 0) (.string ⟨#[]⟩) (.slice none 0 0)
  r3:Ev W (w.heap.size+1+1+1) noE
  only:Only (fun _=>False) w W
theorem Sv.more {w W W':World} {a r:Int} {h:ByteArray} {ao:Option Addr} {n cp:Nat} (x:Sv w W a r h ao n cp) (ho:Only (fun _=>False) W W'):Sv w W' a r h ao n cp:=⟨x.pag.more ho,x.r1.more ho,x.r2.more ho,x.r3.more ho,o2 x.only ho⟩
theorem Sv.kept {w W W':World} {a r:Int} {h:ByteArray} {ao:Option Addr} {n cp:Nat} {S:Nat→Prop} (x:Sv w W a r h ao n cp) (ho:Only S W W') (hS:∀ k,S k→w.heap.size+1+1+1 < k):Sv w W' a r h ao n cp :=
  ⟨x.pag.kept ho (fun s=>by have:=hS _ s; omega),x.r1.kept ho (fun s=>by have:=hS _ s; omega),x.r2.kept ho (fun s=>by have:=hS _ s; omega),x.r3.kept ho (fun s=>by have:=hS _ s; omega),x.only.trans ho (fun i hi s=>by have:=hS _ s; omega)⟩
def svW (w:World) (a r:Int) (h:ByteArray) (ao:Option Addr) (n cp:Nat):World:=(((w.alloc (.cells #[.int .i64 a,.int .i64 3,.int .i64 0,.int .i64 r,.string h,.slice ao n cp] 24)).alloc (.cells #[.int .i64 0,.int .i64 0,.int .i64 0,.int .i64 0,.string ⟨#[]⟩,.slice none 0 0] 24)).alloc (.cells #[.int .i64 0,.int .i64 0,.int .i64 0,.int .i64 0,.string ⟨#[]⟩,.slice none 0 0] 24)).alloc (.cells #[.string ⟨#[]⟩,.int .i64 0,.int .i64 0] 41)
theorem Sv.new (w:World) (a r:Int) (h:ByteArray) (ao:Option Addr) (n cp:Nat):Sv w (svW w a r h ao n cp) a r h ao n cp:=by
  unfold svW
  have e1:=Pag.new (w.alloc (.cells #[.int .i64 a,.int .i64 3,.int .i64 0,.int .i64 r,.string h,.slice ao n cp] 24)) (.int .i64 0) (.int .i64 0) (.int .i64 0) (.int .i64 0) (.string ⟨#[]⟩) (.slice none 0 0)
  rw [World.size_alloc] at e1
  have e2:=Pag.new ((w.alloc (.cells #[.int .i64 a,.int .i64 3,.int .i64 0,.int .i64 r,.string h,.slice ao n cp] 24)).alloc (.cells #[.int .i64 0,.int .i64 0,.int .i64 0,.int .i64 0,.string ⟨#[]⟩,.slice none 0 0] 24)) (.int .i64 0) (.int .i64 0) (.int .i64 0) (.int .i64 0) (.string ⟨#[]⟩) (.slice none 0 0)
  rw [World.size_alloc,World.size_alloc] at e2
  have e3:=Ev.zero (((w.alloc (.cells #[.int .i64 a,.int .i64 3,.int .i64 0,.int .i64 r,.string h,.slice ao n cp] 24)).alloc (.cells #[.int .i64 0,.int .i64 0,.int .i64 0,.int .i64 0,.string ⟨#[]⟩,.slice none 0 0] 24)).alloc (.cells #[.int .i64 0,.int .i64 0,.int .i64 0,.int .i64 0,.string ⟨#[]⟩,.slice none 0 0] 24))
  rw [World.size_alloc,World.size_alloc,World.size_alloc] at e3
  exact ⟨(Pag.new w _ _ _ _ _ _).more (o2 (o2 (onlyA _ _) (onlyA _ _)) (onlyA _ _)),e1.more (o2 (onlyA _ _) (onlyA _ _)),e2.more (onlyA _ _),e3,o2 (o2 (o2 (onlyA _ _) (onlyA _ _)) (onlyA _ _)) (onlyA _ _)⟩
theorem half_eq (n:Nat) (hn:n≤1048576):wrap64 ((wrap64 ((n:Int)+1)).tdiv 2)=(((n+1) / 2:Nat):Int):=by
  have h1:wrap64 ((n:Int)+1)=(n:Int)+1:=by unfold wrap64; omega
  rw [h1,Int.tdiv_eq_ediv_of_nonneg (by omega)]
  unfold wrap64
  omega
theorem Pag.left {w:World} {b:Nat} {v0 v1 v2 v3 v4 v5:Value} (h:Pag w b v0 v1 v2 v3 v4 v5) (x y z:Value):Pag (((w.setCell ⟨b,3,none⟩ x).setCell ⟨b,4,none⟩ y).setCell ⟨b,5,none⟩ z) b v0 v1 v2 x y z:=by
  have a0:=othN _ b 3 0 x _ (by omega) h.c0
  have a1:=othN _ b 3 1 x _ (by omega) h.c1
  have a2:=othN _ b 3 2 x _ (by omega) h.c2
  have a3:(w.setCell ⟨b,3,none⟩ x).cell? ⟨b,3,none⟩=some x:=World.cell?_setCell_same _ _ _ h.c3
  have a4:=othN _ b 3 4 x _ (by omega) h.c4
  have a5:=othN _ b 3 5 x _ (by omega) h.c5
  have b0:=othN _ b 4 0 y _ (by omega) a0
  have b1:=othN _ b 4 1 y _ (by omega) a1
  have b2:=othN _ b 4 2 y _ (by omega) a2
  have b3:=othN _ b 4 3 y _ (by omega) a3
  have b4:((w.setCell ⟨b,3,none⟩ x).setCell ⟨b,4,none⟩ y).cell? ⟨b,4,none⟩=some y:=World.cell?_setCell_same _ _ _ a4
  have b5:=othN _ b 4 5 y _ (by omega) a5
  exact ⟨othN _ b 5 0 z _ (by omega) b0,othN _ b 5 1 z _ (by omega) b1,othN _ b 5 2 z _ (by omega) b2,othN _ b 5 3 z _ (by omega) b3,othN _ b 5 4 z _ (by omega) b4,World.cell?_setCell_same _ _ _ b5,by simpa using h.f0,by simpa using h.f1,by simpa using h.f2,by simpa using h.f3,by simpa using h.f4,by simpa using h.f5,by simpa using h.lt⟩
theorem Only.left (w:World) (b:Nat) (x y z:Value):Only (fun k=>k=b) w (((w.setCell ⟨b,3,none⟩ x).setCell ⟨b,4,none⟩ y).setCell ⟨b,5,none⟩ z):=by
  have st:∀ (W:World) (i:Nat) (v:Value),Only (fun k=>k=b) W (W.setCell ⟨b,i,none⟩ v):=fun W i v=>Only.setCell W ⟨b,i,none⟩ v rfl
  exact ((st _ 3 _).trans (st _ 4 _) (fun _ _ h=>h)).trans (st _ 5 _) (fun _ _ h=>h)
theorem Pag.at (w:World) (b:Nat) (hb:b=w.heap.size) (v0 v1 v2 v3 v4 v5:Value):Pag (w.alloc (.cells #[v0,v1,v2,v3,v4,v5] 24)) b v0 v1 v2 v3 v4 v5:=by subst hb; exact Pag.new w _ _ _ _ _ _
end Go.Proofs.YtipkeeobmihogaaGreat
