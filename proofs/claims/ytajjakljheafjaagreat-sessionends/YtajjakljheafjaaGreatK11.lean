/- Parts. -/
import Derived.Test.YtajjakljheafjaaGreatK08
set_option maxRecDepth 100000
namespace Go.Proofs.YtajjakljheafjaaGreat
open Go.RowKit
structure Lc (w W:World) (a v r:Int) (h:ByteArray) (ao:Option Addr) (n cp cb:Nat) (x y:Value) (hi:En) (es:List En) (ks:List Int):Prop where
  pag:Pag W w.heap.size (.int .i64 a) (.int .i64 3) (.int .i64 v) (.int .i64 r) (.string h) (.slice ao n cp)
  res:Cv W (w.heap.size+1) (.slice none 0 0) (.slice none 0 0) noE
  con:Cv W cb x y hi
  ets:Ets W w.heap.size x es
  kts:Kts W w.heap.size y ks
  dis:∀ k,x.ownBlock=some k→w.heap.size+1 < k∧k≠cb∧y.ownBlock≠some k∧k < W.heap.size
  diy:∀ k,y.ownBlock=some k→w.heap.size+1 < k∧k≠cb∧k < W.heap.size
  cbl:w.heap.size+1 < cb
  only:Only (fun _=>False) w W
theorem Lc.kept {w W W':World} {a v r:Int} {h:ByteArray} {ao:Option Addr} {n cp cb:Nat} {x y:Value} {hi:En} {es:List En} {ks:List Int} {S:Nat→Prop} (H:Lc w W a v r h ao n cp cb x y hi es ks) (ho:Only S W W') (h0:∀ k,S k→w.heap.size+1 < k) (h1:¬ S cb) (h2:∀ k,x.ownBlock=some k→¬ S k) (h3:∀ k,y.ownBlock=some k→¬ S k):Lc w W' a v r h ao n cp cb x y hi es ks :=
  ⟨H.pag.kept ho (fun s=>by have:=h0 _ s; omega),H.res.kept ho (fun s=>by have:=h0 _ s; omega),H.con.kept ho h1,H.ets.kept ho h2,H.kts.kept ho h3,fun k hk=>⟨(H.dis k hk).1,(H.dis k hk).2.1,(H.dis k hk).2.2.1,Nat.lt_of_lt_of_le (H.dis k hk).2.2.2 ho.size⟩,fun k hk=>⟨(H.diy k hk).1,(H.diy k hk).2.1,Nat.lt_of_lt_of_le (H.diy k hk).2.2 ho.size⟩,H.cbl,H.only.trans ho (fun i hi s=>by have:=h0 _ s; omega)⟩
theorem Lc.more {w W W':World} {a v r:Int} {h:ByteArray} {ao:Option Addr} {n cp cb:Nat} {x y:Value} {hi:En} {es:List En} {ks:List Int} (H:Lc w W a v r h ao n cp cb x y hi es ks) (ho:Only (fun _=>False) W W'):Lc w W' a v r h ao n cp cb x y hi es ks :=
  H.kept ho (fun _ h=>h.elim) (fun h=>h) (fun _ _ h=>h) (fun _ _ h=>h)
theorem Lc.app {w W W1:World} {a v r:Int} {h:ByteArray} {ao:Option Addr} {n cp cb:Nat} {x x' y:Value} {hi:En} {es es':List En} {ks:List Int} (H:Lc w W a v r h ao n cp cb x y hi es ks) (he:Ets W1 w.heap.size x' es') (ho:Only (fun j=>x.ownBlock=some j) W W1) (hx:x'.ownBlock=x.ownBlock∨∃ g,x'.ownBlock=some g∧W.heap.size≤g∧g < W1.heap.size):Lc w (W1.setCell ⟨cb,0,none⟩ x') a v r h ao n cp cb x' y hi es' ks:=by
  have hs:Only (fun k=>k=cb) W1 (W1.setCell ⟨cb,0,none⟩ x'):=Only.setCell W1 ⟨cb,0,none⟩ x' rfl
  have hcl:=H.cbl
  have hlt:=H.con.lt
  have d1:¬ x.ownBlock=some (w.heap.size):=fun e=>by have:=(H.dis _ e).1; omega
  have d2:¬ x.ownBlock=some (w.heap.size+1):=fun e=>by have:=(H.dis _ e).1; omega
  have d3:¬ x.ownBlock=some cb:=fun e=>(H.dis _ e).2.1 rfl
  have hy:∀ k,y.ownBlock=some k→¬ x.ownBlock=some k:=fun k hk e=>(H.dis k e).2.2.1 hk
  have hxn:∀ k,x'.ownBlock=some k→w.heap.size+1 < k∧k≠cb∧y.ownBlock≠some k∧k < W1.heap.size:=by
    intro k hk
    rcases hx with e | ⟨g,e,hg,hg2⟩
    · rw [e] at hk
      have:=H.dis k hk
      exact ⟨this.1,this.2.1,this.2.2.1,Nat.lt_of_lt_of_le this.2.2.2 ho.size⟩
    · rw [e] at hk
      cases hk
      refine ⟨by omega,by omega,fun hyk=>?_,hg2⟩
      have:=(H.diy _ hyk).2.2
      omega
  refine ⟨(H.pag.kept ho d1).kept hs (by omega),(H.res.kept ho d2).kept hs (by omega),(H.con.kept ho d3).s0 x',he.kept hs (fun k hk=>(hxn k hk).2.1),(H.kts.kept ho hy).kept hs (fun k hk=>(H.diy k hk).2.1),fun k hk=>?_,fun k hk=>?_,H.cbl,?_⟩
  · have:=hxn k hk
    exact ⟨this.1,this.2.1,this.2.2.1,Nat.lt_of_lt_of_le this.2.2.2 hs.size⟩
  · have:=H.diy k hk
    exact ⟨this.1,this.2.1,Nat.lt_of_lt_of_le (Nat.lt_of_lt_of_le this.2.2 ho.size) hs.size⟩
  · exact (H.only.trans ho (fun i hi e=>by have:=(H.dis _ e).1; omega)).trans hs (fun i hi e=>by omega)
def LfR (w w':World) (e:Ending) (hi:En) (es:List En):Prop:=∃ ao cp,e=.returned (.tuple #[cvv (.slice ao es.length cp) (.slice none 0 0) hi,.bool true])∧Ets w' w.heap.size (.slice ao es.length cp) es∧Only (fun _=>False) w w'
theorem lf_new (w:World) (v0 v1 v2 v3 v4 v5:Value):Pag ((w.alloc (.cells #[v0,v1,v2,v3,v4,v5] 37)).alloc (.cells #[.slice none 0 0,.slice none 0 0,.string ⟨#[]⟩,.int .i64 0,.int .i64 0] 164)) w.heap.size v0 v1 v2 v3 v4 v5∧Cv ((w.alloc (.cells #[v0,v1,v2,v3,v4,v5] 37)).alloc (.cells #[.slice none 0 0,.slice none 0 0,.string ⟨#[]⟩,.int .i64 0,.int .i64 0] 164)) (w.heap.size+1) (.slice none 0 0) (.slice none 0 0) noE∧Only (fun _=>False) w ((w.alloc (.cells #[v0,v1,v2,v3,v4,v5] 37)).alloc (.cells #[.slice none 0 0,.slice none 0 0,.string ⟨#[]⟩,.int .i64 0,.int .i64 0] 164)):=by
  refine ⟨(Pag.new w v0 v1 v2 v3 v4 v5).more (onlyA _ _),?_,o2 (onlyA _ _) (onlyA _ _)⟩
  have e1:=Cv.new (w.alloc (.cells #[v0,v1,v2,v3,v4,v5] 37)) (.slice none 0 0) (.slice none 0 0) noE
  rw [World.size_alloc] at e1
  exact e1
theorem Lc.first {w W:World} {a v r:Int} {h:ByteArray} {ao:Option Addr} {n cp:Nat} {g c:Nat} {hi:En} (hp:Pag W w.heap.size (.int .i64 a) (.int .i64 3) (.int .i64 v) (.int .i64 r) (.string h) (.slice ao n cp)) (hr:Cv W (w.heap.size+1) (.slice none 0 0) (.slice none 0 0) noE) (hc:Cv W c (.slice (some ⟨g,0,none⟩) 0 n) (.slice none 0 0) hi) (he:Ets W w.heap.size (.slice (some ⟨g,0,none⟩) 0 n) []) (h1:w.heap.size+1 < g) (h2:w.heap.size+1 < c) (h3:g≠c) (hgl:g < W.heap.size) (ho:Only (fun _=>False) w W) :
    Lc w W a v r h ao n cp c (.slice (some ⟨g,0,none⟩) 0 n) (.slice none 0 0) hi [] []:=by
  refine ⟨hp,hr,hc,he,Kts.nil _ _,fun k hk=>?_,(fun k hk=>nomatch hk),h2,ho⟩
  have:g=k:=by simpa [Value.ownBlock] using hk
  subst this
  exact ⟨h1,h3,by simp [Value.ownBlock],hgl⟩
theorem lc_A {w w2:World} {a v r:Int} {h:ByteArray} {ao:Option Addr} {n cp:Nat} {hi:En} {O:Obj} (hp:Pag w2 w.heap.size (.int .i64 a) (.int .i64 3) (.int .i64 v) (.int .i64 r) (.string h) (.slice ao n cp)) (hr:Cv w2 (w.heap.size+1) (.slice none 0 0) (.slice none 0 0) noE) (ho:Only (fun _=>False) w w2) (hown:∀ (W:World) (base:Nat),base≤W.heap.size→Ets (W.alloc O) base (.slice (some ⟨W.heap.size,0,none⟩) 0 n) []) :
    Lc w ((w2.alloc O).alloc (.cells #[.slice (some ⟨w2.heap.size,0,none⟩) 0 n,.slice none 0 0,.string hi.key,.int .i64 hi.page,.int .i64 hi.slot] 164)).drew a v r h ao n cp (w2.heap.size+1) (.slice (some ⟨w2.heap.size,0,none⟩) 0 n) (.slice none 0 0) hi [] []:=by
  have o:Only (fun _=>False) w2 ((w2.alloc O).alloc (.cells #[.slice (some ⟨w2.heap.size,0,none⟩) 0 n,.slice none 0 0,.string hi.key,.int .i64 hi.page,.int .i64 hi.slot] 164)).drew:=o2 (o2 (onlyA _ _) (onlyA _ _)) (Only.drew _ _)
  have c:=Cv.new (w2.alloc O) (.slice (some ⟨w2.heap.size,0,none⟩) 0 n) (.slice none 0 0) hi
  rw [World.size_alloc] at c
  have hz:=hr.lt
  exact Lc.first (hp.more o) (hr.more o) (c.more (Only.drew _ _)) ((hown w2 w.heap.size ho.size).more (o2 (onlyA _ _) (Only.drew _ _))) (by omega) (by omega) (by omega) (Nat.lt_of_lt_of_le (by rw [World.size_alloc]; omega) (o2 (onlyA (w2.alloc O) (.cells #[.slice (some ⟨w2.heap.size,0,none⟩) 0 n,.slice none 0 0,.string hi.key,.int .i64 hi.page,.int .i64 hi.slot] 164)) (Only.drew _ _)).size) (o2 ho o)
theorem lc_B {w w2:World} {a v r:Int} {h:ByteArray} {ao:Option Addr} {n cp:Nat} {hi:En} {O:Obj} (hp:Pag w2 w.heap.size (.int .i64 a) (.int .i64 3) (.int .i64 v) (.int .i64 r) (.string h) (.slice ao n cp)) (hr:Cv w2 (w.heap.size+1) (.slice none 0 0) (.slice none 0 0) noE) (ho:Only (fun _=>False) w w2) (hown:∀ (W:World) (base:Nat),base≤W.heap.size→Ets (W.alloc O) base (.slice (some ⟨W.heap.size,0,none⟩) 0 n) []) :
    Lc w ((w2.alloc (.cells #[.slice (some ⟨w2.heap.size+1,0,none⟩) 0 n,.slice none 0 0,.string hi.key,.int .i64 hi.page,.int .i64 hi.slot] 164)).alloc O).drew a v r h ao n cp w2.heap.size (.slice (some ⟨w2.heap.size+1,0,none⟩) 0 n) (.slice none 0 0) hi [] []:=by
  have o:Only (fun _=>False) w2 ((w2.alloc (.cells #[.slice (some ⟨w2.heap.size+1,0,none⟩) 0 n,.slice none 0 0,.string hi.key,.int .i64 hi.page,.int .i64 hi.slot] 164)).alloc O).drew:=o2 (o2 (onlyA _ _) (onlyA _ _)) (Only.drew _ _)
  have c:=Cv.new w2 (.slice (some ⟨w2.heap.size+1,0,none⟩) 0 n) (.slice none 0 0) hi
  have hz:=hr.lt
  have e:=hown (w2.alloc (.cells #[.slice (some ⟨w2.heap.size+1,0,none⟩) 0 n,.slice none 0 0,.string hi.key,.int .i64 hi.page,.int .i64 hi.slot] 164)) w.heap.size (Nat.le_trans ho.size (onlyA w2 _).size)
  rw [World.size_alloc] at e
  have hl:w2.heap.size+1 < ((w2.alloc (.cells #[.slice (some ⟨w2.heap.size+1,0,none⟩) 0 n,.slice none 0 0,.string hi.key,.int .i64 hi.page,.int .i64 hi.slot] 164)).alloc O).drew.heap.size:=by
    show w2.heap.size+1 < ((w2.alloc (.cells #[.slice (some ⟨w2.heap.size+1,0,none⟩) 0 n,.slice none 0 0,.string hi.key,.int .i64 hi.page,.int .i64 hi.slot] 164)).alloc O).heap.size
    rw [World.size_alloc,World.size_alloc]
    omega
  exact Lc.first (hp.more o) (hr.more o) (c.more (o2 (onlyA _ _) (Only.drew _ _))) (e.more (Only.drew _ _)) (by omega) (by omega) (by omega) hl (o2 ho o)
structure Ll (w W:World) (c lb:Nat) (x:Value) (last:En):Prop where
  ev:Ev W lb last
  ne:∀ k,x.ownBlock=some k→k≠lb
  nc:c≠lb
  lo:w.heap.size+1 < lb
theorem Ll.more {w W W':World} {c lb:Nat} {x:Value} {last:En} (h:Ll w W c lb x last) (ho:Only (fun _=>False) W W'):Ll w W' c lb x last:=⟨h.ev.more ho,h.ne,h.nc,h.lo⟩
theorem LfIs.len {hi:En} {l:List ByteArray} {es:List En} (h:LfIs hi l es):l.length=es.length:=by rw [h.items,List.length_map]
theorem LfIs.step {hi:En} {l:List ByteArray} {es:List En} (h:LfIs hi l es) (j:Nat) (hj:j < es.length):((noE :: es).getD j noE).lt es[j]:=by
  have hr:Rise (noE :: es):=List.pairwise_cons.2 ⟨fun e he=>noE_lt (h.ok e he),h.rise⟩
  have:=List.pairwise_iff_getElem.1 hr j (j+1) (by simp; omega) (by simp; omega) (by omega)
  rw [List.getElem_cons_succ] at this
  rw [List.getD_eq_getElem?_getD,List.getElem?_eq_getElem (by simp; omega)]
  exact this
theorem LfIs.at_ {hi:En} {l:List ByteArray} {es:List En} (h:LfIs hi l es) (j:Nat) (hj:j < l.length) (hj':j < es.length):decE (bl l[j])=some es[j]:=by
  have e:l[j]=es[j].enc:=by
    have:=h.items
    subst this
    simp
  rw [e,bl_enc,decE_lay (h.ok _ (List.getElem_mem _))]
theorem last_next (es:List En) (j:Nat) (hj:j < es.length):(noE :: es).getD (j+1) noE=es[j]:=by
  rw [List.getD_eq_getElem?_getD,List.getElem?_cons_succ,List.getElem?_eq_getElem hj]
  rfl
set_option maxHeartbeats 3200000 in
theorem readLeaf_ok (w:World) (a r:Int) (h:ByteArray) (hi:En) (B cp:Nat) (ao:Option Addr) (l:List ByteArray) (es:List En) (hS:Strs w B ao l) (hr:0≤r∧r≤65535) (hh:HiIs h hi) (hl:l.length≤1048576) (hL:LfIs hi l es) :
    Calls Tryz.prog 83 #[pgv a 3 0 r h ao l.length cp] w fun e w'=>LfR w w' e hi es:=by
  have HX:=hide (lf_new w (.int .i64 a) (.int .i64 3) (.int .i64 0) (.int .i64 r) (.string h) (.slice ao l.length cp))
  have HRH:Hid (∀ W,Calls Tryz.prog 124 #[.agg #[.int .i64 a,.int .i64 3,.int .i64 0,.int .i64 r,.string h,.slice ao l.length cp]] W fun e w'=>e=.returned (.tuple #[.agg #[.string hi.key,.int .i64 hi.page,.int .i64 hi.slot],.bool true])∧Only (fun _=>False) W w'):=fun W=>readHead_ok W a 0 r h hi ao l.length cp (by decide) hr hh
  obtain ⟨O,hmk,hown⟩:=ets_made l.length hl
  have HOWN:=hide hown
  have HS:=hide hS
  have HL:=hide hL
  clear hS hr hh hown hL
  unfold pgv
  go_enter Tryz.func83,Tryz.ntmps83
  go_upto_region 1 with fail
  obtain ⟨W0,hW0⟩:=exq ((w.alloc (.cells #[.int .i64 a,.int .i64 3,.int .i64 0,.int .i64 r,.string h,.slice ao l.length cp] 37)).alloc (.cells #[.slice none 0 0,.slice none 0 0,.string ⟨#[]⟩,.int .i64 0,.int .i64 0] 164))
  rw [hW0] at HX ⊢
  clear hW0
  obtain ⟨p0,p1,p2,p3,p4,p5,_⟩:=HX.out.1
  go_wp2_with fail
  refine (HRH.out _).mono ?_
  rintro e w1 ⟨rfl,ho⟩
  have HP1:=hide (HX.out.1.more ho)
  have HC1:=hide (HX.out.2.1.more ho)
  have HO1:=hide (o2 HX.out.2.2 ho)
  have HZ1:Hid (w.heap.size+1 < w1.heap.size):=HC1.out.lt
  clear ho p0 p1 p2 p3 p4 p5 HX HRH
  go_upto_region 2 with fail
  have HA:=hide (onlyA w1 (.cells #[.string hi.key,.int .i64 hi.page,.int .i64 hi.slot] 89))
  have HV2:=hide (Ev.new w1 hi)
  obtain ⟨b4,hb4⟩:=exq (w1.heap.size)
  rw [hb4] at HZ1 HV2 ⊢
  clear hb4
  obtain ⟨w2,hw2⟩:=exq (w1.alloc (.cells #[.string hi.key,.int .i64 hi.page,.int .i64 hi.slot] 89))
  rw [hw2] at HA HV2 ⊢
  clear hw2
  have HP2:=hide (HP1.out.more HA.out)
  have HC2:=hide (HC1.out.more HA.out)
  have HO2:=hide (o2 HO1.out HA.out)
  have HZ2:Hid (w.heap.size+1 < w2.heap.size):=HC2.out.lt
  clear HA HP1 HC1 HO1
  have p2:=HP2.out.c2
  go_upto_region 4 with fail
  clear p2
  go_cut [6] (fun p wx=>∃ c g,p=.pointer (some ⟨c,0,none⟩)∧Hid (Lc w wx a 0 r h ao l.length cp c (.slice (some ⟨g,0,none⟩) 0 l.length) (.slice none 0 0) hi [] []))
  case first=>
    -- {r4
    refine wp_region_noPanic ?_
    refine wp_region_held_drew (S:=fun W=>Only (fun _=>False) w2 W) (by kernel_rfl) (Only.drew _ _) (fun hHeld=>?_)
    refine tkP 0 (.pointer (some ⟨w.heap.size,5,none⟩)) rfl ?_
    refine tkQ 4 (.agg #[.string hi.key,.int .i64 hi.page,.int .i64 hi.slot]) rfl (yieldsIf_load_ev (by rfl) _ rfl rfl (fun W hW=>HV2.out.more hW)) ?_
    refine tkQ 1 (.slice ao l.length cp) rfl (yieldsIf_load_cell (by rfl) 35 _ rfl _ rfl (fun W hW=>(HP2.out.more hW).c5) (fun W hc=>ld_strings hc)) ?_
    refine tkP 2 (.int .i64 (l.length:Int)) rfl ?_
    refine wpAnyH_ready (rs:=[3,6]) (by kernel_rfl) (by simp) ?_
    refine arC rfl (fun K hK=>?_) (arC rfl (fun K hK=>?_) (AllReadyH.nil))
    · go_simp
      refine hK.out _ _ (o2 (onlyA _ _) (Only.drew _ _)) (fun hHeld=>?_)
      clear hK K
      try simp only [Act.put,lsA,lsB,lsC]
      refine tkP 5 (.agg #[.slice (some ⟨w2.heap.size,0,none⟩) 0 l.length,.slice none 0 0,.string hi.key,.int .i64 hi.page,.int .i64 hi.slot]) rfl ?_
      refine rd1 6 rfl (fun K hK=>?_)
      go_simp
      refine hK.out _ _ (o2 (o2 (onlyA _ _) (onlyA _ _)) (Only.drew _ _)) (fun hHeld=>?_)
      clear hK K
      try simp only [Act.put,lsA,lsB,lsC]
      refine rd1 7 rfl (fun K hK=>?_)
      go_simp
      have HLc:=hide (lc_A (hi:=hi) HP2.out HC2.out HO2.out HOWN.out)
      refine hK.out _ _ (o2 (o2 (onlyA _ _) (onlyA _ _)) (Only.drew _ _)) (fun hHeld=>?_)
      clear hK K
      try simp only [Act.put,lsA,lsB,lsC]
      refine dnN ?_
      go_wp2_with fail
      go_meet
      exact ⟨_,_,rfl,HLc⟩
    · go_simp
      refine hK.out _ _ (o2 (onlyA _ _) (Only.drew _ _)) (fun hHeld=>?_)
      clear hK K
      try simp only [Act.put,lsA,lsB,lsC]
      refine rd1 3 rfl (fun K hK=>?_)
      go_simp
      refine hK.out _ _ (o2 (o2 (onlyA _ _) (onlyA _ _)) (Only.drew _ _)) (fun hHeld=>?_)
      clear hK K
      try simp only [Act.put,lsA,lsB,lsC]
      refine tkP 5 (.agg #[.slice (some ⟨w2.heap.size+1,0,none⟩) 0 l.length,.slice none 0 0,.string hi.key,.int .i64 hi.page,.int .i64 hi.slot]) rfl ?_
      refine rd1 7 rfl (fun K hK=>?_)
      go_simp
      have HLc:=hide (lc_B (hi:=hi) HP2.out HC2.out HO2.out HOWN.out)
      refine hK.out _ _ (o2 (o2 (onlyA _ _) (onlyA _ _)) (Only.drew _ _)) (fun hHeld=>?_)
      clear hK K
      try simp only [Act.put,lsA,lsB,lsC]
      refine dnN ?_
      go_wp2_with fail
      go_meet
      exact ⟨_,_,rfl,HLc⟩
    -- r4}
  case rest=>
    obtain ⟨c,g,rfl,HL0⟩:=hcut
    clear HP2 HC2 HV2 HO2
    go_upto_region 6 with fail
    have HA:=hide (onlyA wc (.cells #[.string ⟨#[]⟩,.int .i64 0,.int .i64 0] 89))
    have HE0:=hide (Ev.zero wc)
    have HG0:Hid (g < wc.heap.size∧c < wc.heap.size∧w.heap.size+1 < wc.heap.size):=⟨(HL0.out.dis g rfl).2.2.2,HL0.out.con.lt,HL0.out.res.lt⟩
    obtain ⟨lb,hlb⟩:=exq (wc.heap.size)
    rw [hlb] at HE0 HG0 ⊢
    clear hlb
    obtain ⟨W3,hW3⟩:=exq (wc.alloc (.cells #[.string ⟨#[]⟩,.int .i64 0,.int .i64 0] 89))
    rw [hW3] at HA HE0 ⊢
    clear hW3
    have HL3:=hide (HL0.out.more HA.out)
    have hgn:∀ k,(Value.slice (some ⟨g,0,none⟩) 0 l.length).ownBlock=some k→k≠lb:=by
      intro k hk
      have:g=k:=by simpa [Value.ownBlock] using hk
      have:=HG0.out
      omega
    have HM3:Hid (Ll w W3 c lb (.slice (some ⟨g,0,none⟩) 0 l.length) noE):=⟨HE0.out,hgn,by have:=HG0.out; omega,HG0.out.2.2⟩
    clear hgn
    clear HA HE0 HG0 HL0
    have p5:=HL3.out.pag.c5
    go_upto_region 7 with fail
    clear p5
    have HLEN:=hide HL.out.len
    go_loopw [35] (fun i wr=>∃ (j:Nat) (A:Option Addr) (C:Nat),j≤l.length∧i=.int .i64 (j:Int)∧Hid (Lc w wr a 0 r h ao l.length cp c (.slice A j C) (.slice none 0 0) hi (es.take j) [])∧Hid (Ll w wr c lb (.slice A j C) ((noE :: es).getD j noE))) (fun i _=>l.length - (intOf i).toNat)
    case atStart=>exact ⟨0,some ⟨g,0,none⟩,l.length,Nat.zero_le _,rfl,HL3,HM3⟩
    case round=>
      clear HL3 HM3
      obtain ⟨j,A,C,hj,rfl,HLj,HMj⟩:=hrel
      by_cases hlt:j < l.length
      · have hje:j < es.length:=by have:=HLEN.out; omega
        obtain ⟨o,rfl,hc⟩:=(HS.out.more HLj.out.only).at_ (by omega)
        have ck:=hc j hlt
        have hlk:(j:Int) < (l.length:Int):=by omega
        have HDC:Hid (∀ W,Calls Tryz.prog 99 #[.string l[j]] W fun e w'=>e=.returned (.tuple #[.agg #[.string es[j].key,.int .i64 es[j].page,.int .i64 es[j].slot],.int .i64 0])∧Only (fun _=>False) W w'):=fun W=>by
          have:=decode_any l[j] W
          rw [HL.out.at_ j hlt hje] at this
          exact this
        have HCM:Hid (∀ W,Calls Tryz.prog 125 #[.agg #[.string es[j].key,.int .i64 es[j].page,.int .i64 es[j].slot],.agg #[.string ((noE :: es).getD j noE).key,.int .i64 ((noE :: es).getD j noE).page,.int .i64 ((noE :: es).getD j noE).slot]] W fun e w'=>e=.returned (.int .i64 (cmpE es[j] ((noE :: es).getD j noE)))∧Only (fun _=>False) W w'):=fun W=>compare_any es[j] ((noE :: es).getD j noE) W
        have HZP:=hide (cmpE_pos.2 (HL.out.step j hje))
        have HBY:Hid (∀ W (A1:Option Addr) (C1:Nat),Calls Tryz.prog 85 #[.agg #[.slice A1 j C1,.slice none 0 0,.string hi.key,.int .i64 hi.page,.int .i64 hi.slot],.agg #[.string es[j].key,.int .i64 es[j].page,.int .i64 es[j].slot]] W fun e w'=>e=.returned (.bool false)∧Only (fun _=>False) W w'):=fun W A1 C1=>by
          have:=isBeyond_any W A1 none j 0 C1 0 hi es[j]
          rw [HL.out.in_ es[j] (List.getElem_mem _)] at this
          exact this
        have HNX:=hide (last_next es j hje)
        have HTK:Hid (es.take (j+1)=es.take j++[es[j]]):=List.take_succ_eq_append_getElem hje
        have HTL:Hid ((es.take j).length=j):=by unfold Hid; rw [List.length_take]; omega
        obtain ⟨s,hs⟩:=exq (l[j])
        obtain ⟨e,he⟩:=exq (es[j])
        obtain ⟨la,hla⟩:=exq ((noE :: es).getD j noE)
        obtain ⟨z,hz⟩:=exq (cmpE e la)
        rw [hs] at ck HDC
        rw [he] at HDC HCM HZP HBY HNX HTK
        rw [hla] at HCM HZP HMj
        rw [hz] at HCM HZP
        have hz0:¬ z≤0:=by have:=HZP.out; omega
        clear hc hs he hla hz HZP
        go_wp2_with fail
        refine (HDC.out _).mono ?_
        rintro x w2 ⟨rfl,ho⟩
        have HL4:=hide (HLj.out.more ho)
        have HM4:=hide (HMj.out.more ho)
        clear ho ck HLj HMj HDC
        go_upto_region 10 with fail
        have HA:=hide (onlyA w2 (.cells #[.string e.key,.int .i64 e.page,.int .i64 e.slot] 89))
        have HE4:=hide (Ev.new w2 e)
        have HX4:Hid (∀ k,k < w2.heap.size→k≠w2.heap.size):=fun k hk=>by omega
        have HXC:Hid (c < w2.heap.size∧lb < w2.heap.size∧∀ k,(Value.slice A j C).ownBlock=some k→k < w2.heap.size):=⟨HL4.out.con.lt,HM4.out.ev.lt,fun k hk=>(HL4.out.dis k hk).2.2.2⟩
        obtain ⟨xb,hxb⟩:=exq (w2.heap.size)
        rw [hxb] at HE4 HX4 HXC ⊢
        clear hxb
        obtain ⟨W4,hW4⟩:=exq (w2.alloc (.cells #[.string e.key,.int .i64 e.page,.int .i64 e.slot] 89))
        rw [hW4] at HA HE4 ⊢
        clear hW4
        have HL5:=hide (HL4.out.more HA.out)
        have HM5:=hide (HM4.out.more HA.out)
        clear HA HL4 HM4
        obtain ⟨d0,d1,d2,_⟩:=HE4.out
        obtain ⟨t0,t1,t2,_⟩:=HM5.out.ev
        go_wp2_with fail
        refine (HCM.out _).mono ?_
        rintro x W5 ⟨rfl,ho⟩
        have HL6:=hide (HL5.out.more ho)
        have HM6:=hide (HM5.out.more ho)
        have HE6:=hide (HE4.out.more ho)
        clear ho d0 d1 d2 t0 t1 t2 HL5 HM5 HE4 HCM
        obtain ⟨d0,d1,d2,_⟩:=HE6.out
        obtain ⟨q0,q1,q2,q3,q4,_⟩:=HL6.out.con
        go_wp2_with fail
        refine (HBY.out _ _ _).mono ?_
        rintro x W6 ⟨rfl,ho⟩
        have HL7:=hide (HL6.out.more ho)
        have HM7:=hide (HM6.out.more ho)
        have HE7:=hide (HE6.out.more ho)
        clear ho d0 d1 d2 q0 q1 q2 q3 q4 HL6 HM6 HE6 HBY
        have HN7:=hide (onlyA W6 (.cells #[.string e.key,.int .i64 e.page,.int .i64 e.slot] 89))
        have HEA:=(HL7.out.ets.more HN7.out)
        obtain ⟨A8,C8,W8,hr8,he8,ho8,hx8⟩:=ets_append _ w.heap.size _ _ HEA W6.heap.size 0 1 1 [e] rfl (fun k hk=>by
          have:k=0:=by simpa using hk
          subst this
          exact (Ev.new W6 e).eb) (by have:=HTL.out; omega) (Nat.le_trans HL7.out.only.size (onlyA _ _).size)
        rw [HTL.out] at hr8 he8 hx8
        rw [← HTK.out] at he8
        have HR8:=hide hr8
        have HL8:Hid (Lc w (W8.setCell ⟨c,0,none⟩ (.slice A8 (j+1) C8)) a 0 r h (some ⟨B,o,none⟩) l.length cp c (.slice A8 (j+1) C8) (.slice none 0 0) hi (es.take (j+1)) []):=(HL7.out.more HN7.out).app he8 ho8 (by
          rcases hx8 with e8 | e8
          · exact .inl e8
          · have:=(World.ownsRow.lt he8 _ e8).2
            exact .inr ⟨_,e8,Nat.le_refl _,this⟩)
        have hcn:¬ (Value.slice A j C).ownBlock=some c:=fun k=>(HL7.out.dis c k).2.1 rfl
        have hcx:=(HL7.out.con.more HN7.out).kept ho8 hcn
        have HO8:Hid (Only (fun k=>(Value.slice A j C).ownBlock=some k∨k=c) W6 (W8.setCell ⟨c,0,none⟩ (.slice A8 (j+1) C8))):=((HN7.out.mono (fun _ _ h=>h.elim)).trans (ho8.mono (fun _ _ h=>.inl h)) (fun _ _ h=>h)).trans (Only.setCell (S:=fun k=>k=c) W8 ⟨c,0,none⟩ _ rfl) (fun _ _ h=>.inr h)
        have HE8:=hide (HE7.out.kept HO8.out (by
          rintro (k | k)
          · have:=HXC.out.2.2 _ k; omega
          · have:=HXC.out.1; omega))
        have HV8:=hide (HM7.out.ev.kept HO8.out (by
          rintro (k | k)
          · exact HM7.out.ne _ k rfl
          · exact HM7.out.nc k.symm))
        have HNE:Hid ((∀ k,(Value.slice A8 (j+1) C8).ownBlock=some k→k≠lb)∧c≠lb∧w.heap.size+1 < lb):=⟨by
          intro k hk
          have hl1:=HXC.out.2.1
          rcases hx8 with e8 | e8
          · exact HM7.out.ne k (e8.symm.trans hk)
          · rw [e8] at hk
            have h9:=HM7.out.ev.lt
            cases hk
            rw [World.size_alloc] at *
            omega,HM7.out.nc,HM7.out.lo⟩
        obtain ⟨d0,d1,d2,_⟩:=HE7.out
        have q0:=HL7.out.con.c0
        have u0:=hcx.c0
        have uf:=hcx.f0
        clear hr8 he8 ho8 hx8 hcn hcx HEA HN7 HM7 HO8 HTK HTL HXC HX4
        go_upto_region 13 with (at_builtin; go_must (refine Lib.wpList_append_run _ rfl _ _ _ _ rfl _ _ rfl rfl _ _ HR8.out ?_))
        obtain ⟨W9,hW9⟩:=exq (W8.setCell ⟨c,0,none⟩ (.slice A8 (j+1) C8))
        rw [hW9] at HL8 HE8 HV8 ⊢
        clear hW9 d0 d1 d2 q0 u0 uf HL7 HE7 HR8
        obtain ⟨d0,d1,d2,_⟩:=HE8.out
        obtain ⟨t0,t1,t2,f0,f1,f2,_⟩:=HV8.out
        go_wp2_with fail
        have HV9:=hide (HV8.out.all e)
        have HL9:Hid (Lc w (((W9.setCell ⟨lb,0,none⟩ (.string e.key)).setCell ⟨lb,1,none⟩ (.int .i64 e.page)).setCell ⟨lb,2,none⟩ (.int .i64 e.slot)) a 0 r h (some ⟨B,o,none⟩) l.length cp c (.slice A8 (j+1) C8) (.slice none 0 0) hi (es.take (j+1)) []):=HL8.out.kept (Only.three W9 lb _ _ _) (fun k hk=>by have:=HNE.out.2.2; omega) HNE.out.2.1 (fun k hk=>HNE.out.1 k hk) (fun k hk=>nomatch hk)
        rw [← HNX.out] at HV9
        have HM9:Hid (Ll w _ c lb (.slice A8 (j+1) C8) ((noE :: es).getD (j+1) noE)):=⟨HV9.out,HNE.out.1,HNE.out.2.1,HNE.out.2.2⟩
        rw [HNX.out] at HM9
        clear d0 d1 d2 t0 t1 t2 f0 f1 f2 HL8 HE8 HV8 HNE HV9
        go_roundw
        case rel=>exact ⟨j+1,A8,C8,by omega,by go_num,HL9,by rw [HNX.out]; exact HM9⟩
        case measure=>simp [intOf]; omega
      · have hlk:¬ (j:Int) < (l.length:Int):=by omega
        have ej:j=es.length:=by have:=HLEN.out; omega
        subst ej
        rw [List.take_length] at HLj
        obtain ⟨q0,q1,q2,q3,q4,_⟩:=HLj.out.con
        obtain ⟨r0,r1,r2,r3,r4,f0,f1,f2,f3,f4,_⟩:=HLj.out.res
        go_wp2_with fail
        refine bodyPost_ret (results_cv rfl rfl (HLj.out.res.all _ _ hi)) rfl ?_
        have hfive:=Only.five wr (w.heap.size+1) (.slice A es.length C) (.slice none 0 0) (.string hi.key) (.int .i64 hi.page) (.int .i64 hi.slot)
        exact ⟨A,C,rfl,HLj.out.ets.kept hfive (fun k hk=>by have:=(HLj.out.dis k hk).1; omega),HLj.out.only.trans hfive (fun i hi e=>by omega)⟩
end Go.Proofs.YtajjakljheafjaaGreat
