/- Parts. -/
import Derived.Test.YtajjakljheafjaaGreatK05
import Derived.Deep.RegionHeld3
import Derived.Deep.Draws
import Derived.Deep.LoopGhost
import Derived.Deep.DeepCutAuto
set_option maxRecDepth 100000
namespace Go.Proofs.YtajjakljheafjaaGreat
open Go.RowKit
def Tu.agg (t:Tu):Value:=.agg #[.int .i64 t.xmin,.int .i64 t.xmax,.bool t.frozen,.string t.key,.string t.value]
theorem isKey_any (k:ByteArray) (w:World):Calls Tryz.prog 122 #[.string k] w fun e w'=>e=.returned (.bool (okK k))∧w'=w:=by
  have hk:okK k=(decide ((1:Int)≤k.size) && decide ((k.size:Int)≤24)):=by
    unfold okK
    rw [Bool.eq_iff_iff]
    simp only [Bool.and_eq_true,decide_eq_true_eq]
    omega
  rw [hk]
  by_cases h1:(1:Int)≤k.size
  · go_enter Tryz.func122,Tryz.ntmps122
    go_wp2
    go_ret
    exact ⟨by simp [h1],rfl⟩
  · go_enter Tryz.func122,Tryz.ntmps122
    go_wp2
    go_ret
    exact ⟨by simp; omega,rfl⟩
theorem umark_any (b:Bool) (w:World):Calls Tryz.prog 80 #[.bool b] w fun e w'=>e=.returned (.string ⟨#[mkB b]⟩)∧w'=w:=by
  cases b
  all_goals
    go_enter Tryz.func80,Tryz.ntmps80
    go_wp2
    go_ret
    exact ⟨rfl,rfl⟩
theorem ba_eqU {s t:ByteArray} (h:s=t):(s.toList == t.toList)=true:=by simp [h]
theorem ba_neU {s t:ByteArray} (h:¬ s=t):(s.toList == t.toList)=false:=by
  cases e:(s.toList == t.toList) with
  | false=>rfl
  | true=>
    refine absurd ?_ h
    have e':s.toList=t.toList:=by simpa using e
    rw [ByteArray.toList_eq,ByteArray.toList_eq] at e'
    exact ByteArray.ext (Array.toList_inj.1 e')
theorem one_ne {a b:UInt8} (h:¬ a=b):¬ (⟨#[a]⟩:ByteArray)=⟨#[b]⟩:=by
  intro e
  injection e with e
  simp at e
  exact h e
theorem isMark_any (a:UInt8) (w:World):Calls Tryz.prog 196 #[.string ⟨#[a]⟩] w fun e w'=>e=.returned (.bool (a == 1 || a == 3))∧w'=w:=by
  by_cases h1:a=1
  · subst h1
    go_enter Tryz.func196,Tryz.ntmps196
    go_wp2
    go_ret
    exact ⟨rfl,rfl⟩
  · have e1:((⟨#[a]⟩:ByteArray).toList == (⟨#[1]⟩:ByteArray).toList)=false:=ba_neU (one_ne h1)
    by_cases h3:a=3
    · subst h3
      go_enter Tryz.func196,Tryz.ntmps196
      go_wp2
      go_ret
      exact ⟨rfl,rfl⟩
    · have e3:((⟨#[a]⟩:ByteArray).toList == (⟨#[3]⟩:ByteArray).toList)=false:=ba_neU (one_ne h3)
      go_enter Tryz.func196,Tryz.ntmps196
      go_wp2
      go_ret
      exact ⟨ret_bool (by simp_all),rfl⟩
set_option maxHeartbeats 1600000 in
theorem isVersion_any (t:Tu) (w:World) (h0:-9223372036854775808≤t.xmin∧t.xmin < 9223372036854775808) (h1:-9223372036854775808≤t.xmax∧t.xmax < 9223372036854775808) :
    Calls Tryz.prog 79 #[t.agg] w fun e w'=>e=.returned (.bool t.ok)∧Only (fun _=>False) w w':=by
  obtain ⟨a,b,f,k,v⟩:=t
  have hk:Tu.ok ⟨a,b,f,k,v⟩=(decide (1≤a) && (decide (a≤1024) && (decide (0≤b) && (decide (b≤1024) && (okK k && decide ((v.size:Int)≤64)))))):=by
    unfold okK Tu.ok
    rw [Bool.eq_iff_iff]
    simp only [Bool.and_eq_true,decide_eq_true_eq]
    omega
  rw [hk]
  unfold Tu.agg
  simp only at h0 h1 ⊢
  clear hk
  obtain ⟨q,hq⟩:=exq (okK k)
  have hc:=fun W=>isKey_any k W
  rw [hq] at hc
  rw [hq]
  clear hq
  by_cases c1:1≤a
  · by_cases c2:a≤1024
    · by_cases c3:0≤b
      · by_cases c4:b≤1024
        · cases q
          all_goals
            go_enter Tryz.func79,Tryz.ntmps79
            go_wp2_with (go_at_call 122; refine (hc _).mono ?_; rintro e w' ⟨rfl,hw⟩; obtain rfl:=hw.symm; clear hw)
            go_ret
            exact ⟨by simp [c1,c2,c3,c4],onlyA _ _⟩
        · go_enter Tryz.func79,Tryz.ntmps79
          go_wp2
          go_ret
          exact ⟨by simp; omega,onlyA _ _⟩
      · go_enter Tryz.func79,Tryz.ntmps79
        go_wp2
        go_ret
        exact ⟨by simp; omega,onlyA _ _⟩
    · go_enter Tryz.func79,Tryz.ntmps79
      go_wp2
      go_ret
      exact ⟨by simp; omega,onlyA _ _⟩
  · go_enter Tryz.func79,Tryz.ntmps79
    go_wp2
    go_ret
    exact ⟨by simp; omega,onlyA _ _⟩
structure Tb (w:World) (b:Nat) (t:Tu):Prop where
  c0:w.cell? ⟨b,0,none⟩=some (.int .i64 t.xmin)
  c1:w.cell? ⟨b,1,none⟩=some (.int .i64 t.xmax)
  c2:w.cell? ⟨b,2,none⟩=some (.bool t.frozen)
  c3:w.cell? ⟨b,3,none⟩=some (.string t.key)
  c4:w.cell? ⟨b,4,none⟩=some (.string t.value)
  f0:w.frozen? ⟨b,0,none⟩=false
  f1:w.frozen? ⟨b,1,none⟩=false
  f2:w.frozen? ⟨b,2,none⟩=false
  f3:w.frozen? ⟨b,3,none⟩=false
  f4:w.frozen? ⟨b,4,none⟩=false
  lt:b < w.heap.size
theorem Tb.kept {S:Nat→Prop} {w w':World} {b:Nat} {t:Tu} (h:Tb w b t) (ho:Only S w w') (hS:¬ S b):Tb w' b t :=
  ⟨(ho.cell (p:=⟨b,0,none⟩) h.lt hS).trans h.c0,(ho.cell (p:=⟨b,1,none⟩) h.lt hS).trans h.c1,(ho.cell (p:=⟨b,2,none⟩) h.lt hS).trans h.c2,(ho.cell (p:=⟨b,3,none⟩) h.lt hS).trans h.c3,(ho.cell (p:=⟨b,4,none⟩) h.lt hS).trans h.c4,
   (ho.frozen (p:=⟨b,0,none⟩) h.lt hS).trans h.f0,(ho.frozen (p:=⟨b,1,none⟩) h.lt hS).trans h.f1,(ho.frozen (p:=⟨b,2,none⟩) h.lt hS).trans h.f2,(ho.frozen (p:=⟨b,3,none⟩) h.lt hS).trans h.f3,(ho.frozen (p:=⟨b,4,none⟩) h.lt hS).trans h.f4,Nat.lt_of_lt_of_le h.lt ho.size⟩
theorem Tb.more {w w':World} {b:Nat} {t:Tu} (h:Tb w b t) (ho:Only (fun _=>False) w w'):Tb w' b t:=h.kept ho (fun h=>h)
theorem Tb.new (w:World) (t:Tu):Tb (w.alloc (.cells #[.int .i64 t.xmin,.int .i64 t.xmax,.bool t.frozen,.string t.key,.string t.value] 78)) w.heap.size t :=
  ⟨by simp,by simp,by simp,by simp,by simp,by simp,by simp,by simp,by simp,by simp,by simp⟩
theorem othU (W:World) (b i j:Nat) (v x:Value) (hij:i≠j) (hx:W.cell? ⟨b,j,none⟩=some x):(W.setCell ⟨b,i,none⟩ v).cell? ⟨b,j,none⟩=some x :=
  (World.cell?_setCell_other _ _ _ _ (by intro e; injection e; omega)).trans hx
theorem Tb.s0 {w:World} {b:Nat} {t:Tu} (h:Tb w b t) (x:Int):Tb (w.setCell ⟨b,0,none⟩ (.int .i64 x)) b ⟨x,t.xmax,t.frozen,t.key,t.value⟩ :=
  ⟨World.cell?_setCell_same _ _ _ h.c0,othU _ _ _ _ _ _ (by omega) h.c1,othU _ _ _ _ _ _ (by omega) h.c2,othU _ _ _ _ _ _ (by omega) h.c3,othU _ _ _ _ _ _ (by omega) h.c4,by simpa using h.f0,by simpa using h.f1,by simpa using h.f2,by simpa using h.f3,by simpa using h.f4,by simpa using h.lt⟩
theorem Tb.s1 {w:World} {b:Nat} {t:Tu} (h:Tb w b t) (x:Int):Tb (w.setCell ⟨b,1,none⟩ (.int .i64 x)) b ⟨t.xmin,x,t.frozen,t.key,t.value⟩ :=
  ⟨othU _ _ _ _ _ _ (by omega) h.c0,World.cell?_setCell_same _ _ _ h.c1,othU _ _ _ _ _ _ (by omega) h.c2,othU _ _ _ _ _ _ (by omega) h.c3,othU _ _ _ _ _ _ (by omega) h.c4,by simpa using h.f0,by simpa using h.f1,by simpa using h.f2,by simpa using h.f3,by simpa using h.f4,by simpa using h.lt⟩
theorem Tb.s2 {w:World} {b:Nat} {t:Tu} (h:Tb w b t) (x:Bool):Tb (w.setCell ⟨b,2,none⟩ (.bool x)) b ⟨t.xmin,t.xmax,x,t.key,t.value⟩ :=
  ⟨othU _ _ _ _ _ _ (by omega) h.c0,othU _ _ _ _ _ _ (by omega) h.c1,World.cell?_setCell_same _ _ _ h.c2,othU _ _ _ _ _ _ (by omega) h.c3,othU _ _ _ _ _ _ (by omega) h.c4,by simpa using h.f0,by simpa using h.f1,by simpa using h.f2,by simpa using h.f3,by simpa using h.f4,by simpa using h.lt⟩
theorem Tb.s3 {w:World} {b:Nat} {t:Tu} (h:Tb w b t) (x:ByteArray):Tb (w.setCell ⟨b,3,none⟩ (.string x)) b ⟨t.xmin,t.xmax,t.frozen,x,t.value⟩ :=
  ⟨othU _ _ _ _ _ _ (by omega) h.c0,othU _ _ _ _ _ _ (by omega) h.c1,othU _ _ _ _ _ _ (by omega) h.c2,World.cell?_setCell_same _ _ _ h.c3,othU _ _ _ _ _ _ (by omega) h.c4,by simpa using h.f0,by simpa using h.f1,by simpa using h.f2,by simpa using h.f3,by simpa using h.f4,by simpa using h.lt⟩
theorem Tb.s4 {w:World} {b:Nat} {t:Tu} (h:Tb w b t) (x:ByteArray):Tb (w.setCell ⟨b,4,none⟩ (.string x)) b ⟨t.xmin,t.xmax,t.frozen,t.key,x⟩ :=
  ⟨othU _ _ _ _ _ _ (by omega) h.c0,othU _ _ _ _ _ _ (by omega) h.c1,othU _ _ _ _ _ _ (by omega) h.c2,othU _ _ _ _ _ _ (by omega) h.c3,World.cell?_setCell_same _ _ _ h.c4,by simpa using h.f0,by simpa using h.f1,by simpa using h.f2,by simpa using h.f3,by simpa using h.f4,by simpa using h.lt⟩
theorem Tb.all {w:World} {b:Nat} {u:Tu} (h:Tb w b u) (t:Tu):Tb (((((w.setCell ⟨b,0,none⟩ (.int .i64 t.xmin)).setCell ⟨b,1,none⟩ (.int .i64 t.xmax)).setCell ⟨b,2,none⟩ (.bool t.frozen)).setCell ⟨b,3,none⟩ (.string t.key)).setCell ⟨b,4,none⟩ (.string t.value)) b t :=
  ((((h.s0 t.xmin).s1 t.xmax).s2 t.frozen).s3 t.key).s4 t.value
theorem Only.fiveU (w:World) (b:Nat) (v0 v1 v2 v3 v4:Value):Only (fun k=>k=b) w (((((w.setCell ⟨b,0,none⟩ v0).setCell ⟨b,1,none⟩ v1).setCell ⟨b,2,none⟩ v2).setCell ⟨b,3,none⟩ v3).setCell ⟨b,4,none⟩ v4):=by
  have st:∀ (W:World) (i:Nat) (v:Value),Only (fun k=>k=b) W (W.setCell ⟨b,i,none⟩ v):=fun W i v=>Only.setCell W ⟨b,i,none⟩ v rfl
  exact ((((st _ 0 _).trans (st _ 1 _) (fun _ _ h=>h)).trans (st _ 2 _) (fun _ _ h=>h)).trans (st _ 3 _) (fun _ _ h=>h)).trans (st _ 4 _) (fun _ _ h=>h)
theorem load_tub {w:World} {b:Nat} {t:Tu} (h:Tb w b t):(loadVar 78 ⟨b,0,none⟩).run Tryz.prog w=.ok t.agg w:=by
  have c0:=h.c0
  have c1:=h.c1
  have c2:=h.c2
  have c3:=h.c3
  have c4:=h.c4
  simp [loadVar,go_sem,c0,c1,c2,c3,c4,Tu.agg]
theorem results_tub {fn:Func} {p u:Tmp} (h:fn.results=#[.cell p 78,.tmp u]) {tmps:Array Value} {w:World} {b:Nat} {t:Tu} (hp:tmps.getD p undef=.pointer (some ⟨b,0,none⟩)) (hP:Tb w b t) :
    (results fn tmps).run Tryz.prog w=.ok (.tuple #[t.agg,tmps.getD u undef]) w:=by
  have e:(asAddr (.pointer (some ⟨b,0,none⟩))).run Tryz.prog w=.ok ⟨b,0,none⟩ w:=rfl
  rw [results_cell_tmp h,hp,e]
  simp only [Result.andThen,load_tub hP]
theorem yieldsIf_load_cell {ops:Array Oper} {S:World→Prop} {op:Oper} {a:Act} {v:Value} (hw:Region.wanted op (yielded ops a.tmps)=true) (ty:TypeId) (x:Operand) (ho:op.op=.load ty x)
    (p:Addr) (hx:a.eval x=.pointer (some p)) (hS:∀ w,S w→w.cell? p=some v) (hl:∀ w,w.cell? p=some v→(loadVar ty p).run Tryz.prog w=.ok v w):YieldsIf Tryz.prog ops S op v a :=
  .inl ⟨hw,fun w hw'=>by
    unfold execOp
    simp only [ho,hx,Instr.loadAt,Instr.sureAddr,Sem.run_bind,Sem.run_pure,Result.andThen_ok,hl w (hS w hw')]⟩
theorem ld_int {w:World} {p:Addr} {v:Value} (h:w.cell? p=some v):(loadVar 3 p).run Tryz.prog w=.ok v w:=by simp [loadVar,go_sem,h]
theorem ld_bool {w:World} {p:Addr} {v:Value} (h:w.cell? p=some v):(loadVar 4 p).run Tryz.prog w=.ok v w:=by simp [loadVar,go_sem,h]
theorem ld_string {w:World} {p:Addr} {v:Value} (h:w.cell? p=some v):(loadVar 9 p).run Tryz.prog w=.ok v w:=by simp [loadVar,go_sem,h]
theorem ld_strings {w:World} {p:Addr} {v:Value} (h:w.cell? p=some v):(loadVar 35 p).run Tryz.prog w=.ok v w:=by simp [loadVar,go_sem,h]
def txsL (l:List ByteArray):List UInt8:=(l.map txL).flatten
theorem txsL_snoc (l:List ByteArray) (k:Nat) (h:k < l.length):txsL (l.take (k+1))=txsL (l.take k)++(sev l[k].size++l[k].data.toList):=by
  unfold txsL
  rw [List.take_succ_eq_append_getElem h,List.map_append,List.flatten_append]
  simp [txL]
set_option maxHeartbeats 800000 in
theorem ulaid_any (w:World) (B cp:Nat) (ao:Option Addr) (l:List ByteArray) (hS:Strs w B ao l) (hl:l.length≤2) (hs:∀ s ∈ l,s.size≤100) :
    Calls Tryz.prog 82 #[.slice ao l.length cp] w fun e w'=>e=.returned (.string (str (txsL l)))∧Only (fun _=>False) w w':=by
  have HS:=hide hS
  have HZ:=hide hs
  have HLN:Hid (∀ k,k≤l.length→(txsL (l.take k)).length≤110 * k):=by
    intro k hk
    induction k with
    | zero=>simp [txsL]
    | succ k ih=>
      rw [txsL_snoc l k (by omega)]
      have h1:=ih (by omega)
      have h2:(sev l[k].size).length≤10:=sevF_len 9 _
      have h3:=hs l[k] (List.getElem_mem _)
      have h4:l[k].data.toList.length=l[k].size:=bl_len _
      simp only [List.length_append]
      omega
  clear hS hs
  go_enter Tryz.func82,Tryz.ntmps82
  go_wp2_with fail
  refine (new_any w).mono ?_
  rintro e w1 ⟨rfl,rfl⟩
  have HW0:=hide (Wr.new w)
  have HO0:=hide (onlyA w (.cells #[.slice none 0 0] 189))
  obtain ⟨w1,hw1⟩:=exq (w.alloc (.cells #[.slice none 0 0] 189))
  rw [hw1] at HW0 HO0 ⊢
  clear hw1
  go_wp2_with fail
  go_loopw [9] (fun i wr=>∃ (k:Nat) (row:Option Nat),k≤l.length∧i=.int .i64 k∧Hid (Wr wr w.heap.size row (txsL (l.take k)))∧Hid (Only (fun _=>False) w wr))
    (fun i _=>l.length - (intOf i).toNat)
  case atStart=>exact ⟨0,none,Nat.zero_le _,rfl,by simpa [txsL] using HW0,HO0⟩
  case round=>
    obtain ⟨k,row,hk,rfl,HW,HO⟩:=hrel
    by_cases hlt:k < l.length
    · obtain ⟨o,rfl,hc⟩:=HS.out.at_ (by omega)
      have hB:=HS.out.lt (by omega)
      have ck:wr.cell? ⟨B,o+k,none⟩=some (.string l[k]):=(HO.out.cell (p:=⟨B,o+k,none⟩) hB (fun h=>h)).trans (hc k hlt)
      have hlk:(k:Int) < (l.length:Int):=by omega
      have h100:=HZ.out l[k] (List.getElem_mem hlt)
      have hll:=HLN.out k hk
      have HE:=hide (txsL_snoc l k hlt)
      obtain ⟨s,hs⟩:=exq (l[k])
      rw [hs] at ck h100 HE
      clear hc hs
      go_wp2_with fail
      refine (wtext_any wr w.heap.size row _ s HW.out (by omega)).mono ?_
      rintro e w2 ⟨rfl,row2,hW2,hg2⟩
      rw [← HE.out] at hW2
      have HW2:=hide hW2
      have HO2:Hid (Only (fun _=>False) w w2):=HO.out.trans hg2.only (by
        rintro i hi (e | e)
        · omega
        · have:=(HW.out.rowLt i e.symm).1
          omega)
      clear hW2 hg2
      go_wp2_with fail
      go_roundw
      case rel=>exact ⟨k+1,row2,by omega,by go_num,HW2,HO2⟩
      case measure=>simp [intOf]; omega
    · have hlk:¬ (k:Int) < (l.length:Int):=by omega
      have ek:l.take k=l:=List.take_of_length_le (by omega)
      rw [ek] at HW
      go_wp2_with fail
      refine (wbytes_any wr w.heap.size row _ HW.out).mono ?_
      rintro e w2 ⟨rfl,rfl⟩
      go_wp2_with fail
      go_ret
      exact ⟨rfl,HO.out⟩
def fourB (l:List UInt8):Bool:=l.head? == some 4
theorem bl_inj {s t:ByteArray} (h:bl s=bl t):s=t:=by rw [← str_bl s,h,str_bl]
theorem ext_blU (s:ByteArray) (i j:Nat):bl (s.extract i j)=((bl s).drop i).take (j - i):=by
  unfold bl
  rw [ByteArray.data_extract,Array.toList_extract]
theorem ext_first (s:ByteArray) (h:1≤s.size):∃ a r,bl s=a :: r∧s.extract 0 1=⟨#[a]⟩∧bl (s.extract 1 s.size)=r:=by
  have hl:=bl_len s
  cases e:bl s with
  | nil=>rw [e] at hl; simp at hl; omega
  | cons a r=>
    refine ⟨a,r,rfl,bl_inj ?_,?_⟩
    · rw [ext_blU,e]; rfl
    · rw [ext_blU,e]
      rw [e] at hl
      simp only [List.length_cons] at hl
      exact List.take_of_length_le (by simp; omega)
def behind (s:ByteArray):ByteArray:=if fourB (bl s) then s.extract 1 s.size else s
def slotL:List ByteArray→Nat
  | []=>0
  | s :: l=>if s.size=0 then 0 else slotL l+1
theorem slotL_le (l:List ByteArray):slotL l≤l.length:=by
  induction l with
  | nil=>simp [slotL]
  | cons s l ih=>
    unfold slotL
    split
    · omega
    · simp; omega
theorem slotL_at {l:List ByteArray} {k:Nat} (h:k < l.length) (hz:l[k].size=0) (hb:∀ j (hj:j < k),¬ (l[j]'(by omega)).size=0):slotL l=k:=by
  induction l generalizing k with
  | nil=>simp at h
  | cons s l ih=>
    cases k with
    | zero=>unfold slotL; rw [if_pos (by simpa using hz)]
    | succ k=>
      have h0:=hb 0 (by omega)
      unfold slotL
      rw [if_neg (by simpa using h0),ih (k:=k) (by simpa using h) (by simpa using hz) (fun j hj=>hb (j+1) (by omega))]
theorem slotL_all {l:List ByteArray} (hb:∀ j (hj:j < l.length),¬ l[j].size=0):slotL l=l.length:=by
  induction l with
  | nil=>rfl
  | cons s l ih=>
    have h0:=hb 0 (by simp)
    unfold slotL
    rw [if_neg (by simpa using h0),ih (fun j hj=>hb (j+1) (by simp; omega))]
    rfl
end Go.Proofs.YtajjakljheafjaaGreat
namespace Go.Proofs.YtajjakljheafjaaGreat
open Go.RowKit
theorem ba_empty (s:ByteArray):(s.toList.isEmpty)=decide (s.size=0):=by
  rw [ByteArray.toList_eq]
  have h:=bl_len s
  unfold bl at h
  cases e:s.data.toList with
  | nil=>rw [e] at h; simp at h; simp [← h]
  | cons a r=>rw [e] at h; simp at h; simp; intro h0; rw [h0] at h; simp at h
set_option maxHeartbeats 800000 in
theorem uindex_any (w:World) (B cp:Nat) (ao:Option Addr) (l:List ByteArray) (hS:Strs w B ao l) :
    Calls Tryz.prog 149 #[.slice ao l.length cp,.string ⟨#[]⟩] w fun e w'=>e=.returned (.int .i64 (if slotL l < l.length then (slotL l:Int) else -1))∧w'=w:=by
  have hln:=hS.len
  have HS:=hide hS
  clear hS
  obtain ⟨R,hR⟩:=exq ((if slotL l < l.length then (slotL l:Int) else -1))
  rw [hR]
  have HR:=hide hR
  clear hR
  go_enter Tryz.func149,Tryz.ntmps149
  go_wp2_with fail
  go_loopw [8] (fun i wr=>∃ (k:Nat),k≤l.length∧i=.int .i64 k∧Hid (wr=w)∧Hid (∀ j (hj:j < k) (hl:j < l.length),¬ l[j].size=0))
    (fun i _=>l.length - (intOf i).toNat)
  case atStart=>exact ⟨0,Nat.zero_le _,rfl,rfl,fun j hj=>absurd hj (by omega)⟩
  case round=>
    obtain ⟨k,hk,rfl,hw,HB⟩:=hrel
    obtain rfl:=hw.out.symm
    clear hw
    by_cases hlt:k < l.length
    · obtain ⟨o,rfl,hc⟩:=HS.out.at_ (by omega)
      have ck:w.cell? ⟨B,o+k,none⟩=some (.string l[k]):=hc k hlt
      have hlk:(k:Int) < (l.length:Int):=by omega
      have he:=ba_empty l[k]
      by_cases hz:l[k].size=0
      · have HE:Hid (slotL l=k):=slotL_at hlt hz (fun j hj=>HB.out j hj (by omega))
        rw [decide_eq_true hz] at he
        obtain ⟨s,hs⟩:=exq (l[k])
        rw [hs] at ck he
        have hes:s=⟨#[]⟩:=by
          have h1:s.size=0:=by rw [← hs]; exact hz
          have h2:=bl_len s
          exact bl_inj (List.eq_nil_of_length_eq_zero (by omega))
        subst hes
        clear hc hz hs he
        go_wp2_with fail
        go_ret
        refine ⟨?_,rfl⟩
        rw [← HR.out,HE.out,if_pos hlt]
        rfl
      · have HB2:Hid (∀ j (hj:j < k+1) (hl:j < l.length),¬ l[j].size=0):=fun j hj hl=>by
          by_cases e:j=k
          · subst e
            exact hz
          · exact HB.out j (by omega) hl
        rw [decide_eq_false hz] at he
        obtain ⟨s,hs⟩:=exq (l[k])
        rw [hs] at ck he
        clear hc hz hs
        go_wp2_with fail
        go_roundw
        case rel=>exact ⟨k+1,by omega,by go_num,hide trivial,HB2⟩
        case measure=>simp [intOf]; omega
    · have hlk:¬ (k:Int) < (l.length:Int):=by omega
      have HE:Hid (slotL l=l.length):=slotL_all (fun j hj=>HB.out j (by omega) hj)
      go_wp2_with fail
      go_ret
      refine ⟨?_,rfl⟩
      rw [← HR.out,HE.out,if_neg (by omega)]
      rfl
set_option maxHeartbeats 800000 in
theorem uslot_any (w:World) (a k v r:Int) (h:ByteArray) (B cp:Nat) (ao:Option Addr) (l:List ByteArray) (hS:Strs w B ao l) :
    Calls Tryz.prog 106 #[.agg #[.int .i64 a,.int .i64 k,.int .i64 v,.int .i64 r,.string h,.slice ao l.length cp]] w fun e w'=>e=.returned (.int .i64 (slotL l))∧Only (fun _=>False) w w':=by
  have HI:=hide (uindex_any _ B cp ao l (hS.more (onlyA w (.cells #[.int .i64 a,.int .i64 k,.int .i64 v,.int .i64 r,.string h,.slice ao l.length cp] 37))))
  have hle:=slotL_le l
  have hln:=hS.len
  have HO:=hide (onlyA w (.cells #[.int .i64 a,.int .i64 k,.int .i64 v,.int .i64 r,.string h,.slice ao l.length cp] 37))
  clear hS
  by_cases hlt:slotL l < l.length
  · rw [if_pos hlt] at HI
    obtain ⟨n,hn⟩:=exq (slotL l)
    rw [hn] at HI hlt hle ⊢
    clear hn
    go_enter Tryz.func106,Tryz.ntmps106
    go_wp2_with fail
    refine HI.out.mono ?_
    rintro e w1 ⟨rfl,hw⟩
    obtain rfl:=hw.symm
    clear hw
    go_wp2_with fail
    go_ret
    exact ⟨rfl,HO.out⟩
  · rw [if_neg hlt] at HI
    have e:slotL l=l.length:=by omega
    rw [e]
    clear e hlt hle
    go_enter Tryz.func106,Tryz.ntmps106
    go_wp2_with fail
    refine HI.out.mono ?_
    rintro e w1 ⟨rfl,hw⟩
    obtain rfl:=hw.symm
    clear hw
    go_wp2_with fail
    go_ret
    exact ⟨rfl,HO.out⟩
end Go.Proofs.YtajjakljheafjaaGreat
