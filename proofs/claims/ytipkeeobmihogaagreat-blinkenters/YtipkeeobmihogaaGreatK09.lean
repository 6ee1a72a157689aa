/- Parts. -/
import Derived.Test.YtipkeeobmihogaaGreatK08
import Derived.Deep.Draws
import Derived.Maps.AppendAt
import Derived.Laws.OwnMore
import Derived.Lib.AppendZeros
import Derived.Test.YtipkeeobmihogaaGreatK07
set_option maxRecDepth 100000
namespace Go.Proofs.YtipkeeobmihogaaGreat
open Go.RowKit
theorem getD_of {l:List ByteArray} {j:Nat} (h:j < l.length):l.getD j ByteArray.empty=l[j]:=by simp [List.getD_eq_getElem?_getD,h]
theorem ba_toList {s t:ByteArray} (h:s.toList=t.toList):s=t:=by
  rw [ByteArray.toList_eq,ByteArray.toList_eq] at h
  obtain ⟨⟨l⟩⟩:=s
  obtain ⟨⟨m⟩⟩:=t
  simp at h
  rw [h]
set_option maxHeartbeats 800000 in
theorem inRange_any (w:World) (a k v r:Int) (h:ByteArray) (cp n:Nat) (ao:Option Addr) :
    Calls Tryz.prog 74 #[.agg #[.int .i64 a,.int .i64 k,.int .i64 v,.int .i64 r,.string h,.slice ao n cp]] w fun e w'=>e=.returned (.bool (decide (0≤a∧1≤k∧k≤3∧0≤v∧v≤255∧0≤r∧r≤4294967295)))∧Only (fun _=>False) w w':=by
  have HO:=hide (onlyA w (.cells #[.int .i64 a,.int .i64 k,.int .i64 v,.int .i64 r,.string h,.slice ao n cp] 24))
  go_enter Tryz.func74,Tryz.ntmps74
  go_wp2_with fail
  all_goals go_ret
  all_goals exact ⟨ret_bool (by rw [Bool.eq_iff_iff]; first | (simp; done) | (simp; omega)),HO.out⟩
set_option maxHeartbeats 1600000 in
theorem ysame_any (w:World) (a k v r a' k' v' r':Int) (h h':ByteArray) (B B' cp cp':Nat) (ao ao':Option Addr) (l l':List ByteArray) (hS:Strs w B ao l) (hS':Strs w B' ao' l') :
    Calls Tryz.prog 27 #[.agg #[.int .i64 a,.int .i64 k,.int .i64 v,.int .i64 r,.string h,.slice ao l.length cp],.agg #[.int .i64 a',.int .i64 k',.int .i64 v',.int .i64 r',.string h',.slice ao' l'.length cp']] w fun e w'=>
      e=.returned (.bool (decide (a=a'∧k=k'∧v=v'∧r=r'∧h=h'∧l=l')))∧Only (fun _=>False) w w':=by
  have HO:=hide (o2 (onlyA w (.cells #[.int .i64 a,.int .i64 k,.int .i64 v,.int .i64 r,.string h,.slice ao l.length cp] 24)) (onlyA _ (.cells #[.int .i64 a',.int .i64 k',.int .i64 v',.int .i64 r',.string h',.slice ao' l'.length cp'] 24)))
  have HP:=hide ((Pag.new w (.int .i64 a) (.int .i64 k) (.int .i64 v) (.int .i64 r) (.string h) (.slice ao l.length cp)).more (onlyA _ (.cells #[.int .i64 a',.int .i64 k',.int .i64 v',.int .i64 r',.string h',.slice ao' l'.length cp'] 24)))
  have HQ:=hide (Pag.new (w.alloc (.cells #[.int .i64 a,.int .i64 k,.int .i64 v,.int .i64 r,.string h,.slice ao l.length cp] 24)) (.int .i64 a') (.int .i64 k') (.int .i64 v') (.int .i64 r') (.string h') (.slice ao' l'.length cp'))
  have hl1:=hS.len
  have hl2:=hS'.len
  have HS:=hide hS
  have HS':=hide hS'
  clear hS hS'
  by_cases hE:a=a'∧k=k'∧v=v'∧r=r'∧h=h'∧l.length=l'.length
  · obtain ⟨rfl,rfl,rfl,rfl,rfl,hn⟩:=hE
    rw [← hn] at HO HP HQ ⊢
    have HNN:=hide hn
    clear hl2
    have hl2:l'.length=l.length:=hn.symm
    clear hn
    have HL2:=hide hl2
    clear hl2
    go_enter Tryz.func27,Tryz.ntmps27
    go_wp2_with fail
    go_loopw [5] (fun y wr=>∃ (j:Nat),j≤l.length∧y=.int .i64 (j:Int)∧Hid (∀ i (h:i < l.length) (h':i < l'.length),i < j→l[i]=l'[i])∧Hid (Only (fun _=>False) ((w.alloc (.cells #[.int .i64 a,.int .i64 k,.int .i64 v,.int .i64 r,.string h,.slice ao l.length cp] 24)).alloc (.cells #[.int .i64 a,.int .i64 k,.int .i64 v,.int .i64 r,.string h,.slice ao' l.length cp'] 24)) wr)) (fun y _=>l.length - (intOf y).toNat)
    case atStart=>exact ⟨0,by omega,rfl,hide (fun i _ _ h=>by omega),hide (Only.refl _ _)⟩
    case round=>
      obtain ⟨j,hj,rfl,HE,HW⟩:=hrel
      obtain ⟨p0,p1,p2,p3,p4,p5,g0,g1,g2,g3,g4,g5,gl⟩:=HP.out.more HW.out
      obtain ⟨q0,q1,q2,q3,q4,q5,t0,t1,t2,t3,t4,t5,tl⟩:=HQ.out.more HW.out
      have hsz:(w.alloc (.cells #[.int .i64 a,.int .i64 k,.int .i64 v,.int .i64 r,.string h,.slice ao l.length cp] 24)).heap.size=w.heap.size+1:=by simp
      rw [hsz] at q0 q1 q2 q3 q4 q5 t0 t1 t2 t3 t4 t5 tl
      clear hsz g0 g1 g2 g3 g4 g5 t0 t1 t2 t3 t4 t5 p0 p1 p2 p3 p4 q0 q1 q2 q3 q4
      by_cases hlt:j < l.length
      · obtain ⟨o1,e1,c1⟩:=(HS.out.more (o2 HO.out HW.out)).at_ (by omega)
        obtain ⟨o2',e2,c2⟩:=(HS'.out.more (o2 HO.out HW.out)).at_ (by have:=HNN.out; omega)
        have k1:=c1 j hlt
        have hjl:j < l'.length:=by have:=HNN.out; omega
        have k2:=c2 j hjl
        have hj1:(j:Int) < (l.length:Int):=by omega
        obtain ⟨s,hs⟩:=exq (l[j])
        obtain ⟨s',hs'⟩:=exq (l'[j])
        rw [hs] at k1
        rw [hs'] at k2
        have HSS:=hide hs
        have HSS':=hide hs'
        clear c1 c2 hs hs'
        subst e1
        subst e2
        by_cases hss:s=s'
        · subst hss
          go_wp2_with fail
          go_region
          go_wp2_with fail
          go_roundw
          case rel=>
            refine ⟨j+1,by omega,by go_num,hide (fun i h1 h2 h3=>?_),hide (HW.out.trans (Only.drew _ _) (fun _ _ h=>h))⟩
            by_cases e:i=j
            · subst e; rw [HSS.out,HSS'.out]
            · exact HE.out i h1 h2 (by omega)
          case measure=>simp [intOf]; omega
        · have hss':¬ s.toList=s'.toList:=fun e=>hss (ba_toList e)
          have HNE:Hid (l≠l'):=fun e=>hss (by rw [← HSS.out,← HSS'.out]; simp [e])
          go_wp2_with fail
          go_region
          go_wp2_with fail
          · go_ret
            exact ⟨ret_bool (by simp [HNE.out]),o2 HO.out (HW.out.trans (Only.drew _ _) (fun _ _ h=>h))⟩
          · have hx:(!s.toList == s'.toList)=false:=‹_›
            exact absurd (by simpa using hx) hss'
      · have HEQ:Hid (l=l'):=List.ext_getElem HNN.out (fun i h1 h2=>HE.out i h1 h2 (by omega))
        go_wp2_with fail
        go_ret
        exact ⟨ret_bool (by simp [HEQ.out]),o2 HO.out HW.out⟩
  · have hE':¬ (a=a'∧k=k'∧v=v'∧r=r'∧h.toList=h'.toList∧(l.length:Int)=(l'.length:Int)):=by
      rintro ⟨h1,h2,h3,h4,h5,h6⟩
      exact hE ⟨h1,h2,h3,h4,ba_toList h5,by omega⟩
    have HN:=hide hE
    have HN':=hide hE'
    clear hE hE'
    go_enter Tryz.func27,Tryz.ntmps27
    go_wp2_with fail
    all_goals first
      | exact absurd ⟨‹_›,‹_›,‹_›,‹_›,‹_›,by have hx:((l.length:Int) != (l'.length:Int))=false:=‹_›; simpa using hx⟩ HN'.out
      | (go_ret
         refine ⟨ret_bool ?_,o2 (onlyA _ _) (onlyA _ _)⟩
         exact (decide_eq_false (fun hh=>HN.out ⟨hh.1,hh.2.1,hh.2.2.1,hh.2.2.2.1,hh.2.2.2.2.1,by rw [hh.2.2.2.2.2]⟩)).symm)
theorem add_at (b o n:Nat):(⟨b,o,none⟩:Addr).add n=⟨b,o+n,none⟩:=by
  unfold Addr.add
  split
  · rename_i h; rw [h]; rfl
  · rfl
def scells (l:List ByteArray):List Value:=l.map Value.string
theorem scells_append (l m:List ByteArray):scells (l++m)=scells l++scells m:=by simp [scells]
theorem scells_one (l:List ByteArray):∀ u ∈ scells l,u.oneCell'=true:=by
  intro u hu
  obtain ⟨s,_,rfl⟩:=List.mem_map.1 hu
  rfl
def Ls (w:World) (base:Nat) (v:Value) (l:List ByteArray):Prop:=w.ownsRow base 9 1 v l.length (scells l)
structure Fit (ao:Option Addr) (n cp:Nat):Prop where
  nil:ao=none→cp=0
  le:n≤cp
  big:cp≤maxLen
theorem Ls.nil (w:World) (base:Nat):Ls w base (.slice none 0 0) []:=World.ownsRow_nil _ _ _ _
theorem Ls.strs {w:World} {base:Nat} {v:Value} {l:List ByteArray} (h:Ls w base v l) (hl:l.length≤8796093022207) (hs:∀ s ∈ l,s.size≤140737488355328) :
    ∃ B ao cp,v=.slice ao l.length cp∧Strs w B ao l∧Fit ao l.length cp∧(0 < l.length→base≤B)∧(ao=none∨ao=some ⟨B,0,none⟩):=by
  rcases h.2 with ⟨rfl,h0⟩ | ⟨g,cap,cur,rfl,hb,hg,hn,hm,_⟩
  · have e:l=[]:=List.eq_nil_of_length_eq_zero h0
    subst e
    exact ⟨0,none,0,rfl,Strs.nil _ _ _,⟨fun _=>rfl,by simp,by simp⟩,fun h=>absurd h (by simp),.inl rfl⟩
  · refine ⟨g,some ⟨g,0,none⟩,cap,rfl,⟨fun _=>⟨0,rfl,fun j hj=>?_⟩,fun _=>(Array.getElem?_eq_some_iff.1 hg).1,hl,hs⟩,⟨(fun h=>by cases h),hn,hm⟩,fun _=>hb,.inr rfl⟩
    rw [Nat.zero_add,World.ownsRow.cellAt h j (by omega)]
    simp [scells,hj]
theorem Tryz.infoStr:(Tryz.prog.info? 9).map (fun i=>(i.zero,i.size,i.bytes))=some (some (.string ⟨#[]⟩),1,16):=by kernel_rfl
theorem Strs.none_nil {w:World} {B:Nat} {l:List ByteArray} (h:Strs w B none l):l=[]:=by
  cases l with
  | nil=>rfl
  | cons s t=>
    obtain ⟨o,e,_⟩:=h.at_ (by simp)
    cases e
theorem append_strs (w:World) (ty:TypeId) (base:Nat) (v:Value) (l:List ByteArray) (h:Ls w base v l) (B cp:Nat) (ao:Option Addr) (m:List ByteArray) (hm:Strs w B ao m) (hf:Fit ao m.length cp) (hroom:l.length+m.length≤8796093022208) (hbase:base≤w.heap.size) :
    ∃ v' w',(Builtin.append_ #[22,22] ty #[v,.slice ao m.length cp]).run Tryz.prog w=.ok v' w'∧Ls w' base v' (l++m)∧Only (fun k=>base≤k) w w':=by
  obtain ⟨i0,hi,hz0,hz1,hz2⟩:=info_parts Tryz.infoStr
  cases ao with
  | none=>
    have e:=hm.none_nil
    subst e
    have hc:=hf.nil rfl
    subst hc
    refine ⟨v,w,run_append_owned_none (P:=Tryz.prog) w base 22 ty 9 i0 1 Tryz.underlying22 hi v l.length (scells l) h,by rw [List.append_nil]; exact h,Only.refl _ _⟩
  | some ad=>
    obtain ⟨v',w',hr,h2,h3,_,_⟩:=run_append_own_at (P:=Tryz.prog) w base 22 ty 9 i0 (.string ⟨#[]⟩) 1 16 Tryz.underlying22 hi hz0 hz1 hz2 rfl (by decide) v l.length (scells l) h ad m.length cp (scells m) (by simp [scells])
      (fun j u hu=>by
        have hj:j < m.length:=by have:=(List.getElem?_eq_some_iff.1 hu).1; simpa [scells] using this
        obtain ⟨o,e,hc⟩:=hm.at_ (by omega)
        cases e
        rw [add_at,hc j hj,← hu]
        simp [scells,hj]) (scells_one m) (by unfold maxLen; omega) (by omega) hbase
    refine ⟨v',w',hr,?_,Only.grown h3 (fun k hk=>(World.ownsRow.lt h k hk).1)⟩
    have e:l.length+m.length=(l++m).length:=by simp
    unfold Ls
    rw [scells_append,← e]
    exact h2
set_option maxHeartbeats 800000 in
theorem grow_any (w:World) (n:Nat) (hn:n≤8796093022208) :
    Calls Tryz.prog 129 #[.slice none 0 0,.int .i64 (n:Int)] w fun e w'=>∃ v,e=.returned v∧Ls w' w.heap.size v []∧Only (fun _=>False) w w':=by
  obtain ⟨i0,hi,hz0,hz1,hz2⟩:=info_parts Tryz.infoStr
  by_cases h0:n=0
  · subst h0
    go_enter Tryz.func129,Tryz.ntmps129
    go_wp2_with fail
    go_ret
    exact ⟨_,rfl,Ls.nil _ _,Only.refl _ _⟩
  · have hp:(0:Int) < (n:Int):=by omega
    have hr:=Lib.run_append_nil_zeros (P:=Tryz.prog) w 22 3 22 9 i0 (.string ⟨#[]⟩) .i64 .i64 Tryz.underlying22 Tryz.underlying3 hi hz0 n (by omega) (by omega) (by omega) (by rw [hz2]; omega)
    have HR:=hide hr
    clear hr
    go_enter Tryz.func129,Tryz.ntmps129
    go_wp2_with (at_builtin; go_must (refine Lib.wpList_append_run _ rfl _ _ _ _ rfl _ _ rfl rfl _ _ HR.out ?_))
    go_ret
    refine ⟨_,rfl,⟨rfl,.inr ⟨w.heap.size,_,_,rfl,Nat.le_refl _,heap_alloc_new w.drew _,Nat.zero_le _,grownCap_le_maxLen w n 0 9 (by unfold maxLen; omega),?_,rfl⟩⟩,(Only.drew _ w).trans (Only.alloc (fun _=>False) _ _) (fun _ _ h=>h)⟩
    have hge:=grownCap_ge w n 0 9
    simp only [Array.size_append,size_zeroCells]
    show n * 1+(grownCap w n 0 9 - n) * 1=grownCap w n 0 9 * 1
    omega
def catTo (L:Nat→List ByteArray):Nat→List ByteArray
  | 0=>[]
  | k+1=>catTo L k++L k
theorem catTo_le (L:Nat→List ByteArray) (k n:Nat) (h:k≤n):(catTo L k).length≤(catTo L n).length:=by
  induction n with
  | zero => have:k=0:=by omega
            subst this; exact Nat.le_refl _
  | succ n ih=>
    by_cases e:k=n+1
    · subst e; exact Nat.le_refl _
    · have:=ih (by omega)
      simp only [catTo,List.length_append]
      omega
set_option maxHeartbeats 800000 in
theorem concat_any (w:World) (b n c:Nat) (A:Nat→Option Addr) (C B:Nat→Nat) (L:Nat→List ByteArray) (hc:∀ j,j < n→w.cell? ⟨b,j,none⟩=some (.slice (A j) (L j).length (C j)))
    (hL:∀ j,j < n→Strs w (B j) (A j) (L j)) (hF:∀ j,j < n→Fit (A j) (L j).length (C j)) (hn:n≤3) (hb:b < w.heap.size) (hroom:(catTo L n).length≤8796093022208) :
    Calls Tryz.prog 114 #[.slice (some ⟨b,0,none⟩) n c] w fun e w'=>∃ v,e=.returned v∧Ls w' w.heap.size v (catTo L n)∧Only (fun _=>False) w w':=by
  have HC:=hide hc
  have HL:=hide hL
  have HF:=hide hF
  have HR:=hide hroom
  clear hc hL hF hroom
  have HM:Hid (∀ k,k≤n→(catTo L k).length≤8796093022208):=fun k hk=>Nat.le_trans (catTo_le L k n hk) HR.out
  go_enter Tryz.func114,Tryz.ntmps114
  go_wp2_with fail
  go_loop [3,11] (fun x y=>∃ (j m:Nat),j≤n∧y=.int .i64 (j:Int)∧x=.int .i64 (m:Int)∧m≤8796093022208∧Hid (m=(catTo L j).length)) (fun _ y=>n - (intOf y).toNat)
  case atStart=>exact ⟨0,0,by omega,rfl,rfl,by omega,hide rfl⟩
  case round=>
    obtain ⟨j,m,hj,rfl,rfl,hm,HQ⟩:=hrel
    by_cases hlt:j < n
    · have hcj:=HC.out j hlt
      have hm2:=HM.out (j+1) hlt
      have HT:Hid ((m:Int)+((L j).length:Int)=(((catTo L (j+1)).length:Nat):Int)):=by
        unfold Hid
        simp only [catTo,List.length_append]
        have:=HQ.out
        omega
      have hmb:(m:Int)+((L j).length:Int)≤8796093022208:=by have:=HT.out; omega
      have hj1:(j:Int) < (n:Int):=by omega
      obtain ⟨lj,hlj⟩:=exq ((L j).length)
      rw [hlj] at hcj HT hmb
      clear hlj
      clear hm2
      go_wp2_with fail
      go_round
      case rel=>exact ⟨j+1,(catTo L (j+1)).length,by omega,by go_num,by rw [HT.out],HM.out _ hlt,hide rfl⟩
      case measure=>simp [intOf]; omega
    · have ej:j=n:=by omega
      subst ej
      go_wp2_with fail
      refine (grow_any _ m hm).mono ?_
      rintro e w1 ⟨v1,rfl,hl1,ho1⟩
      have HL1:=hide hl1
      have HO1:=hide ho1
      clear hl1 ho1
      go_wp2_with fail
      go_loopw [6,27] (fun x y wr=>∃ (i:Nat),i≤j∧y=.int .i64 (i:Int)∧Hid (Ls wr w.heap.size x (catTo L i))∧Hid (Only (fun _=>False) w wr)) (fun _ y _=>j - (intOf y).toNat)
      case atStart=>exact ⟨0,by omega,rfl,HL1,HO1⟩
      case round=>
        obtain ⟨i,hi,rfl,HX,HO⟩:=hrel
        by_cases hlt2:i < j
        · have hcj:=(HO.out.cell (p:=⟨b,i,none⟩) hb (fun h=>h)).trans (HC.out i hlt2)
          obtain ⟨v2,w2,hr2,hl2,ho2⟩:=append_strs wr 22 w.heap.size _ _ HX.out (B i) (C i) (A i) (L i) ((HL.out i hlt2).more HO.out) (HF.out i hlt2) (by have:=HM.out (i+1) hlt2; simp only [catTo,List.length_append] at this; omega) HO.out.size
          have HR2:=hide hr2
          have HL2:Hid (Ls w2 w.heap.size v2 (catTo L (i+1))):=hl2
          have HO2:Hid (Only (fun _=>False) w w2):=HO.out.trans ho2 (fun k hk e=>by omega)
          clear hr2 hl2 ho2
          have hj1:(i:Int) < (j:Int):=by omega
          go_wp2_with (at_builtin; go_must (refine Lib.wpList_append_run _ rfl _ _ _ _ rfl _ _ rfl rfl _ _ HR2.out ?_))
          go_roundw
          case rel=>exact ⟨i+1,by omega,by go_num,HL2,HO2⟩
          case measure=>simp [intOf]; omega
        · have ei:i=j:=by omega
          subst ei
          go_wp2_with fail
          go_ret
          exact ⟨_,rfl,HX.out,HO.out⟩
theorem clone_any (w:World) (B cp:Nat) (ao:Option Addr) (l:List ByteArray) (h:Strs w B ao l) :
    Calls Tryz.prog 91 #[.slice ao l.length cp] w fun e w'=>∃ v,e=.returned v∧Ls w' w.heap.size v l∧Only (fun _=>False) w w':=by
  have only:∀ w',Below w.heap.size w w'→Only (fun _=>False) w w':=fun w' hb=>⟨hb.os,hb.tape,hb.output,hb.size,fun k hk _=>hb.block k hk⟩
  cases ao with
  | none=>
    have e:=h.none_nil
    subst e
    refine (Tryz.slices_Clone_string_nil _ cp w).mono ?_
    rintro e w' ⟨rfl,rfl⟩
    exact ⟨_,rfl,Ls.nil _ _,Only.refl _ _⟩
  | some ad=>
    by_cases h0:l.length=0
    · have e:l=[]:=List.eq_nil_of_length_eq_zero h0
      subst e
      refine (Tryz.slices_Clone_string_zero ad cp w).mono ?_
      rintro e w' ⟨v,rfl,ho,_,hb⟩
      exact ⟨v,rfl,ho,only _ hb⟩
    · obtain ⟨o,e,hc⟩:=h.at_ (by omega)
      cases e
      have hl:=h.len
      refine (Tryz.slices_Clone_string B o l.length cp l w (Nat.le_refl _) (by omega) (fun j hj=>by rw [hc j hj,getD_of hj])).mono ?_
      rintro e w' ⟨v,rfl,ho,_,hb⟩
      rw [List.take_of_length_le (Nat.le_refl _)] at ho
      exact ⟨v,rfl,ho,only _ hb⟩
def ecs (es:List En):List Value:=es.flatMap fun e=>[.string e.key,.int .i64 e.page,.int .i64 e.slot]
theorem ecs_len (es:List En):(ecs es).length=es.length * 3:=by
  induction es with
  | nil=>rfl
  | cons e es ih=>simp only [ecs,List.flatMap_cons,List.length_append,List.length_cons,List.length_nil] at ih ⊢; omega
theorem ecs_app (es fs:List En):ecs (es++fs)=ecs es++ecs fs:=by simp [ecs]
theorem ecs_get (es:List En) (j:Nat) (h:j < es.length):(ecs es)[j * 3]?=some (.string es[j].key)∧(ecs es)[j * 3+1]?=some (.int .i64 es[j].page)∧(ecs es)[j * 3+2]?=some (.int .i64 es[j].slot):=by
  induction es generalizing j with
  | nil=>simp at h
  | cons e es ih=>
    have hc:ecs (e :: es)=[.string e.key,.int .i64 e.page,.int .i64 e.slot]++ecs es:=rfl
    rw [hc]
    cases j with
    | zero=>exact ⟨rfl,rfl,rfl⟩
    | succ j=>
      obtain ⟨a,b,c⟩:=ih j (by simpa using h)
      refine ⟨?_,?_,?_⟩
      · rw [List.getElem?_append_right (by simp; omega)]
        simpa [show (j+1) * 3 - 3=j * 3 by omega] using a
      · rw [List.getElem?_append_right (by simp; omega)]
        simpa [show (j+1) * 3+1 - 3=j * 3+1 by omega] using b
      · rw [List.getElem?_append_right (by simp; omega)]
        simpa [show (j+1) * 3+2 - 3=j * 3+2 by omega] using c
theorem ecs_one (es:List En):∀ u ∈ ecs es,u.oneCell'=true:=by
  intro u hu
  simp only [ecs,List.mem_flatMap] at hu
  obtain ⟨e,_,hu⟩:=hu
  simp only [List.mem_cons,List.not_mem_nil,or_false] at hu
  rcases hu with rfl | rfl | rfl <;> rfl
structure Els (w:World) (B:Nat) (ao:Option Addr) (es:List En):Prop where
  at_:0 < es.length→∃ o,ao=some ⟨B,o,none⟩∧∀ j (h:j < es.length),Eb w B (o+j * 3) es[j]
theorem Els.kept {S:Nat→Prop} {w w':World} {B:Nat} {ao:Option Addr} {es:List En} (h:Els w B ao es) (ho:Only S w w') (hS:0 < es.length→¬ S B):Els w' B ao es :=
  ⟨fun h0=>by
    obtain ⟨o,e,hc⟩:=h.at_ h0
    exact ⟨o,e,fun j hj=>(hc j hj).kept ho (hS h0)⟩⟩
theorem Els.more {w w':World} {B:Nat} {ao:Option Addr} {es:List En} (h:Els w B ao es) (ho:Only (fun _=>False) w w'):Els w' B ao es:=h.kept ho (fun _ h=>h)
def Ets (w:World) (base:Nat) (v:Value) (es:List En):Prop:=w.ownsRow base 41 3 v es.length (ecs es)
theorem Ets.nil (w:World) (base:Nat):Ets w base (.slice none 0 0) []:=World.ownsRow_nil _ _ _ _
theorem Ets.kept {S:Nat→Prop} {w w':World} {base:Nat} {v:Value} {es:List En} (h:Ets w base v es) (ho:Only S w w') (hS:∀ k,v.ownBlock=some k→¬ S k):Ets w' base v es:=by
  obtain ⟨h1,h2⟩:=h
  refine ⟨h1,?_⟩
  rcases h2 with h2 | ⟨g,cap,cur,hv,hg,hh,r⟩
  · exact .inl h2
  · subst hv
    exact .inr ⟨g,cap,cur,rfl,hg,by rw [ho.block g (Array.getElem?_eq_some_iff.1 hh).1 (hS g rfl)]; exact hh,r⟩
theorem Ets.more {w w':World} {base:Nat} {v:Value} {es:List En} (h:Ets w base v es) (ho:Only (fun _=>False) w w'):Ets w' base v es:=h.kept ho (fun _ _ h=>h)
theorem Ets.form {w:World} {base:Nat} {v:Value} {es:List En} (h:Ets w base v es):∃ ao cp,v=.slice ao es.length cp:=by
  rcases h.2 with ⟨rfl,h0⟩ | ⟨g,cap,cur,rfl,_⟩
  · exact ⟨none,0,by rw [h0]⟩
  · exact ⟨_,_,rfl⟩
theorem Ets.els {w:World} {base:Nat} {v:Value} {es:List En} (h:Ets w base v es):∃ B ao cp,v=.slice ao es.length cp∧Els w B ao es∧(0 < es.length→base≤B)∧(∀ k,v.ownBlock=some k→base≤k∧k < w.heap.size):=by
  have h':=h
  have hlt:∀ k,v.ownBlock=some k→base≤k∧k < w.heap.size:=fun k hk=>World.ownsRow.lt h' k hk
  rcases h.2 with ⟨rfl,h0⟩ | ⟨g,cap,cur,rfl,hb,hh,_⟩
  · exact ⟨0,none,0,by rw [h0],⟨fun hp=>by omega⟩,fun hp=>by omega,hlt⟩
  · refine ⟨g,_,cap,rfl,⟨fun _=>⟨0,rfl,fun j hj=>?_⟩⟩,fun _=>hb,hlt⟩
    obtain ⟨a,b,c⟩:=ecs_get es j hj
    have hl:=ecs_len es
    refine ⟨?_,?_,?_,(Array.getElem?_eq_some_iff.1 hh).1⟩
    · rw [Nat.zero_add,World.ownsRow.cellAt h' _ (by omega)]; exact a
    · rw [Nat.zero_add,World.ownsRow.cellAt h' _ (by omega)]; exact b
    · rw [Nat.zero_add,World.ownsRow.cellAt h' _ (by omega)]; exact c
theorem Tryz.infoEn:(Tryz.prog.info? 41).map (fun i=>(i.zero,i.size,i.bytes))=some (some (.agg #[.string ⟨#[]⟩,.int .i64 0,.int .i64 0]),3,32):=by kernel_rfl
theorem ets_append (w:World) (base:Nat) (v:Value) (es:List En) (h:Ets w base v es) (B o m c:Nat) (fs:List En) (hm:fs.length=m) (hf:∀ j (hj:j < fs.length),Eb w B (o+j * 3) fs[j]) (hl:es.length+m≤4194304) (hbase:base≤w.heap.size) :
    ∃ ao cp w',(Builtin.append_ #[79,79] 79 #[v,.slice (some ⟨B,o,none⟩) m c]).run Tryz.prog w=.ok (.slice ao (es.length+m) cp) w'∧Ets w' base (.slice ao (es.length+m) cp) (es++fs)∧Only (fun j=>v.ownBlock=some j) w w'∧((Value.slice ao (es.length+m) cp).ownBlock=v.ownBlock∨(Value.slice ao (es.length+m) cp).ownBlock=some w.heap.size):=by
  obtain ⟨i0,hi,hz0,hz1,hz2⟩:=info_parts Tryz.infoEn
  obtain ⟨v',w',hr,h2,h3,_,h4⟩:=run_append_own_at (P:=Tryz.prog) w base 79 79 41 i0 (.agg #[.string ⟨#[]⟩,.int .i64 0,.int .i64 0]) 3 32 Tryz.underlying79 hi hz0 hz1 hz2 rfl (by decide) v es.length (ecs es) h ⟨B,o,none⟩ m c (ecs fs) (by rw [ecs_len,hm])
    (fun j u hu=>by
      have hj:j < fs.length * 3:=by
        have:=(List.getElem?_eq_some_iff.1 hu).1
        rwa [ecs_len] at this
      obtain ⟨q,r,rfl,hr⟩:∃ q r,j=q * 3+r∧r < 3:=⟨j / 3,j % 3,by omega,by omega⟩
      have hq:q < fs.length:=by omega
      obtain ⟨a1,a2,a3⟩:=ecs_get fs q hq
      have hE:=hf q hq
      rw [add_at,← Nat.add_assoc]
      match r,hr with
      | 0,_=>
        rw [Nat.add_zero] at hu ⊢
        rw [a1] at hu
        cases hu
        exact hE.c0
      | 1,_=>
        rw [a2] at hu
        cases hu
        exact hE.c1
      | 2,_=>
        rw [a3] at hu
        cases hu
        exact hE.c2) (ecs_one fs) (by unfold maxLen; omega) (by omega) hbase
  have e:Ets w' base v' (es++fs):=by
    unfold Ets
    rw [ecs_app,List.length_append,hm]
    exact h2
  obtain ⟨ao,cp,rfl⟩:=e.form
  rw [List.length_append,hm] at hr e h4
  exact ⟨ao,cp,w',hr,e,Only.grown h3 (fun j hj=>hj),h4⟩
theorem ets_made (n:Nat) (hn:n≤1048576):∃ O:Obj,(∀ W:World,(Instr.makeSlice 79 (.int .i64 0) (.int .i64 (n:Int))).run Tryz.prog W=.ok (.slice (some ⟨W.heap.size,0,none⟩) 0 n) (W.alloc O)) ∧
    (∀ (W:World) (base:Nat),base≤W.heap.size→Ets (W.alloc O) base (.slice (some ⟨W.heap.size,0,none⟩) 0 n) []):=by
  obtain ⟨i0,hi,hz0,hz1,hz2⟩:=info_parts Tryz.infoEn
  refine ⟨.cells (madeCells (Value.agg #[.string ⟨#[]⟩,.int .i64 0,.int .i64 0]).cells ((n:Int).toNat * i0.size)) 41,fun W=>?_,fun W base hb=>?_⟩
  · have h:=run_make (P:=Tryz.prog) W 79 41 i0 (.agg #[.string ⟨#[]⟩,.int .i64 0,.int .i64 0]) Tryz.underlying79 hi hz0 .i64 .i64 0 (n:Int) (by omega) (by omega) (by rw [hz2]; omega) (by omega)
    simpa using h
  · obtain ⟨w',hmk,hown,hgr⟩:=run_make_own (P:=Tryz.prog) W base 79 41 i0 (.agg #[.string ⟨#[]⟩,.int .i64 0,.int .i64 0]) 3 Tryz.underlying79 hi hz0 hz1 .i64 .i64 n (by rw [hz2]; omega) (by unfold maxLen; omega) hb
    have h:=run_make (P:=Tryz.prog) W 79 41 i0 (.agg #[.string ⟨#[]⟩,.int .i64 0,.int .i64 0]) Tryz.underlying79 hi hz0 .i64 .i64 0 (n:Int) (by omega) (by omega) (by rw [hz2]; omega) (by omega)
    rw [hmk] at h
    simp at h
    subst h
    exact hown
def ncs (ks:List Int):List Value:=ks.map fun k=>Value.int .i64 k
theorem ncs_len (ks:List Int):(ncs ks).length=ks.length:=by simp [ncs]
def Kts (w:World) (base:Nat) (v:Value) (ks:List Int):Prop:=w.ownsRow base 3 1 v ks.length (ncs ks)
theorem Kts.nil (w:World) (base:Nat):Kts w base (.slice none 0 0) []:=World.ownsRow_nil _ _ _ _
theorem Kts.kept {S:Nat→Prop} {w w':World} {base:Nat} {v:Value} {es:List Int} (h:Kts w base v es) (ho:Only S w w') (hS:∀ k,v.ownBlock=some k→¬ S k):Kts w' base v es:=by
  obtain ⟨h1,h2⟩:=h
  refine ⟨h1,?_⟩
  rcases h2 with h2 | ⟨g,cap,cur,hv,hg,hh,r⟩
  · exact .inl h2
  · subst hv
    exact .inr ⟨g,cap,cur,rfl,hg,by rw [ho.block g (Array.getElem?_eq_some_iff.1 hh).1 (hS g rfl)]; exact hh,r⟩
theorem Kts.more {w w':World} {base:Nat} {v:Value} {es:List Int} (h:Kts w base v es) (ho:Only (fun _=>False) w w'):Kts w' base v es:=h.kept ho (fun _ _ h=>h)
theorem Kts.form {w:World} {base:Nat} {v:Value} {es:List Int} (h:Kts w base v es):∃ ao cp,v=.slice ao es.length cp:=by
  rcases h.2 with ⟨rfl,h0⟩ | ⟨g,cap,cur,rfl,_⟩
  · exact ⟨none,0,by rw [h0]⟩
  · exact ⟨_,_,rfl⟩
theorem Kts.at_ {w:World} {base:Nat} {v:Value} {ks:List Int} (h:Kts w base v ks) (j:Nat) (hj:j < ks.length):∃ g cp,v=.slice (some ⟨g,0,none⟩) ks.length cp∧base≤g∧g < w.heap.size∧w.cell? ⟨g,j,none⟩=some (.int .i64 ks[j]):=by
  have h':=h
  rcases h.2 with ⟨rfl,h0⟩ | ⟨g,cap,cur,rfl,hb,hh,_⟩
  · omega
  · refine ⟨g,cap,rfl,hb,(Array.getElem?_eq_some_iff.1 hh).1,?_⟩
    rw [World.ownsRow.cellAt h' _ (by omega)]
    simp [ncs,hj]
theorem Tryz.infoIn:(Tryz.prog.info? 3).map (fun i=>(i.zero,i.size,i.bytes))=some (some (.int .i64 0),1,8):=by kernel_rfl
theorem kts_append (w:World) (base:Nat) (v:Value) (es:List Int) (h:Kts w base v es) (B:Nat) (k:Int) (hf:w.cell? ⟨B,0,none⟩=some (.int .i64 k)) (hl:es.length≤4194304) (hbase:base≤w.heap.size) :
    ∃ ao cp w',(Builtin.append_ #[25,25] 25 #[v,.slice (some ⟨B,0,none⟩) 1 1]).run Tryz.prog w=.ok (.slice ao (es.length+1) cp) w'∧Kts w' base (.slice ao (es.length+1) cp) (es++[k])∧Only (fun j=>v.ownBlock=some j) w w'∧((Value.slice ao (es.length+1) cp).ownBlock=v.ownBlock∨(Value.slice ao (es.length+1) cp).ownBlock=some w.heap.size):=by
  obtain ⟨i0,hi,hz0,hz1,hz2⟩:=info_parts Tryz.infoIn
  obtain ⟨v',w',hr,h2,h3,_,h4⟩:=run_append_own_at (P:=Tryz.prog) w base 25 25 3 i0 (.int .i64 0) 1 8 Tryz.underlying25 hi hz0 hz1 hz2 rfl (by decide) v es.length (ncs es) h ⟨B,0,none⟩ 1 1 (ncs [k]) rfl
    (fun j u hu=>by
      match j,hu with
      | 0,hu=>simp [ncs] at hu; subst hu; simpa [Addr.add] using hf) (by intro u hu; simp [ncs] at hu; subst hu; rfl) (by unfold maxLen; omega) (by omega) hbase
  have e:Kts w' base v' (es++[k]):=by
    unfold Kts
    rw [show ncs (es++[k])=ncs es++ncs [k] by simp [ncs],List.length_append]
    exact h2
  obtain ⟨ao,cp,rfl⟩:=e.form
  rw [List.length_append] at hr e h4
  exact ⟨ao,cp,w',hr,e,Only.grown h3 (fun j hj=>hj),h4⟩
theorem kts_made (n:Nat) (hn:n≤1048576):∃ O:Obj,(∀ W:World,(Instr.makeSlice 25 (.int .i64 0) (.int .i64 (n:Int))).run Tryz.prog W=.ok (.slice (some ⟨W.heap.size,0,none⟩) 0 n) (W.alloc O)) ∧
    (∀ (W:World) (base:Nat),base≤W.heap.size→Kts (W.alloc O) base (.slice (some ⟨W.heap.size,0,none⟩) 0 n) []):=by
  obtain ⟨i0,hi,hz0,hz1,hz2⟩:=info_parts Tryz.infoIn
  refine ⟨.cells (madeCells (Value.int .i64 0).cells ((n:Int).toNat * i0.size)) 3,fun W=>?_,fun W base hb=>?_⟩
  · have h:=run_make (P:=Tryz.prog) W 25 3 i0 (.int .i64 0) Tryz.underlying25 hi hz0 .i64 .i64 0 (n:Int) (by omega) (by omega) (by rw [hz2]; omega) (by omega)
    simpa using h
  · obtain ⟨w',hmk,hown,hgr⟩:=run_make_own (P:=Tryz.prog) W base 25 3 i0 (.int .i64 0) 1 Tryz.underlying25 hi hz0 hz1 .i64 .i64 n (by rw [hz2]; omega) (by unfold maxLen; omega) hb
    have h:=run_make (P:=Tryz.prog) W 25 3 i0 (.int .i64 0) Tryz.underlying25 hi hz0 .i64 .i64 0 (n:Int) (by omega) (by omega) (by rw [hz2]; omega) (by omega)
    rw [hmk] at h
    simp at h
    subst h
    exact hown
theorem load_eb {w:World} {b o:Nat} {e:En} (h:Eb w b o e):(loadVar 41 ⟨b,o,none⟩).run Tryz.prog w=.ok e.agg w:=by
  have c0:=h.c0
  have c1:=h.c1
  have c2:=h.c2
  simp [loadVar,go_sem,c0,c1,c2,En.agg]
theorem Ev.eb {w:World} {b:Nat} {e:En} (h:Ev w b e):Eb w b 0 e:=⟨h.c0,h.c1,h.c2,h.lt⟩
theorem yieldsIf_load_eb {ops:Array Oper} {S:World→Prop} {op:Oper} {a:Act} {e:En} (hw:Region.wanted op (yielded ops a.tmps)=true) (x:Operand) (ho:op.op=.load 41 x)
    {b o:Nat} (hx:a.eval x=.pointer (some ⟨b,o,none⟩)) (hS:∀ w,S w→Eb w b o e):YieldsIf Tryz.prog ops S op (.agg #[.string e.key,.int .i64 e.page,.int .i64 e.slot]) a :=
  .inl ⟨hw,fun w hw'=>by
    unfold execOp
    simp only [ho,hx,Instr.loadAt,Instr.sureAddr,Sem.run_bind,Sem.run_pure,Result.andThen_ok,load_eb (hS w hw'),En.agg]⟩
theorem yieldsIf_load_ev {ops:Array Oper} {S:World→Prop} {op:Oper} {a:Act} {e:En} (hw:Region.wanted op (yielded ops a.tmps)=true) (x:Operand) (ho:op.op=.load 41 x)
    {b:Nat} (hx:a.eval x=.pointer (some ⟨b,0,none⟩)) (hS:∀ w,S w→Ev w b e):YieldsIf Tryz.prog ops S op (.agg #[.string e.key,.int .i64 e.page,.int .i64 e.slot]) a :=
  yieldsIf_load_eb hw x ho hx (fun w h=>(hS w h).eb)
theorem yieldsIf_load_cv {ops:Array Oper} {S:World→Prop} {op:Oper} {a:Act} {a1 a2:Option Addr} {n1 n2 c1 c2:Nat} {e:En} (hw:Region.wanted op (yielded ops a.tmps)=true) (x:Operand) (ho:op.op=.load 85 x)
    {b:Nat} (hx:a.eval x=.pointer (some ⟨b,0,none⟩)) (hS:∀ w,S w→Cv w b (.slice a1 n1 c1) (.slice a2 n2 c2) e):YieldsIf Tryz.prog ops S op (.agg #[.slice a1 n1 c1,.slice a2 n2 c2,.string e.key,.int .i64 e.page,.int .i64 e.slot]) a :=
  .inl ⟨hw,fun w hw'=>by
    unfold execOp
    simp only [ho,hx,Instr.loadAt,Instr.sureAddr,Sem.run_bind,Sem.run_pure,Result.andThen_ok,load_cv (hS w hw'),cvv]⟩
theorem yieldsIf_load_page {ops:Array Oper} {S:World→Prop} {op:Oper} {a:Act} {v0 v1 v2 v3 v4 v5:Value} (hw:Region.wanted op (yielded ops a.tmps)=true) (x:Operand) (ho:op.op=.load 24 x)
    (b:Nat) (hx:a.eval x=.pointer (some ⟨b,0,none⟩)) (hS:∀ w,S w→Pag w b v0 v1 v2 v3 v4 v5):YieldsIf Tryz.prog ops S op (.agg #[v0,v1,v2,v3,v4,v5]) a :=
  .inl ⟨hw,fun w hw'=>by
    unfold execOp
    simp only [ho,hx,Instr.loadAt,Instr.sureAddr,Sem.run_bind,Sem.run_pure,Result.andThen_ok,load_page (hS w hw')]⟩
theorem yieldsIf_load_cell {ops:Array Oper} {S:World→Prop} {op:Oper} {a:Act} {v:Value} (hw:Region.wanted op (yielded ops a.tmps)=true) (ty:TypeId) (x:Operand) (ho:op.op=.load ty x)
    (p:Addr) (hx:a.eval x=.pointer (some p)) (hS:∀ w,S w→w.cell? p=some v) (hl:∀ w,w.cell? p=some v→(loadVar ty p).run Tryz.prog w=.ok v w):YieldsIf Tryz.prog ops S op v a :=
  .inl ⟨hw,fun w hw'=>by
    unfold execOp
    simp only [ho,hx,Instr.loadAt,Instr.sureAddr,Sem.run_bind,Sem.run_pure,Result.andThen_ok,hl w (hS w hw')]⟩
theorem ld_int {w:World} {p:Addr} {v:Value} (h:w.cell? p=some v):(loadVar 3 p).run Tryz.prog w=.ok v w:=by simp [loadVar,go_sem,h]
theorem ld_string {w:World} {p:Addr} {v:Value} (h:w.cell? p=some v):(loadVar 9 p).run Tryz.prog w=.ok v w:=by simp [loadVar,go_sem,h]
theorem ld_strings {w:World} {p:Addr} {v:Value} (h:w.cell? p=some v):(loadVar 22 p).run Tryz.prog w=.ok v w:=by simp [loadVar,go_sem,h]
theorem ld_entries {w:World} {p:Addr} {v:Value} (h:w.cell? p=some v):(loadVar 79 p).run Tryz.prog w=.ok v w:=by simp [loadVar,go_sem,h]
theorem ld_ints {w:World} {p:Addr} {v:Value} (h:w.cell? p=some v):(loadVar 25 p).run Tryz.prog w=.ok v w:=by simp [loadVar,go_sem,h]
end Go.Proofs.YtipkeeobmihogaaGreat
