/- Parts. -/
import Derived.Test.YtajjakljheafjaaGreatK02
import Derived.Lib.IndexBytes
set_option maxRecDepth 100000
namespace Go.Proofs.YtajjakljheafjaaGreat
open Go.RowKit
structure Wr (w:World) (b:Nat) (row:Option Nat) (l:List UInt8):Prop where
  ex:∃ v,w.cell? ⟨b,0,none⟩=some v∧Row w (b+1) v row l
  fz:w.frozen? ⟨b,0,none⟩=false
  lt:b < w.heap.size
structure Rd (w:World) (r:Nat) (s:ByteArray) (x:Int):Prop where
  c0:w.cell? ⟨r,0,none⟩=some (.string s)
  c1:w.cell? ⟨r,1,none⟩=some (.int .i64 x)
  f0:w.frozen? ⟨r,0,none⟩=false
  f1:w.frozen? ⟨r,1,none⟩=false
  lt:r < w.heap.size
theorem Wr.kept {S:Nat→Prop} {w w':World} {b:Nat} {row:Option Nat} {l:List UInt8} (h:Wr w b row l) (ho:Only S w w') (hb:¬ S b) (hS:∀ k,row=some k→¬ S k):Wr w' b row l:=by
  obtain ⟨⟨v,hc,hr⟩,hf,hl⟩:=h
  exact ⟨⟨v,(ho.cell (p:=⟨b,0,none⟩) hl hb).trans hc,hr.kept ho hS⟩,(ho.frozen (p:=⟨b,0,none⟩) hl hb).trans hf,Nat.lt_of_lt_of_le hl ho.size⟩
theorem Wr.rowLt {w:World} {b:Nat} {row:Option Nat} {l:List UInt8} (h:Wr w b row l):∀ k,row=some k→b < k∧k < w.heap.size:=by
  obtain ⟨v,_,hr⟩:=h.ex
  intro k hk
  have:=hr.lt k hk
  omega
theorem Rd.kept {S:Nat→Prop} {w w':World} {r:Nat} {s:ByteArray} {x:Int} (h:Rd w r s x) (ho:Only S w w') (hr:¬ S r):Rd w' r s x :=
  ⟨(ho.cell (p:=⟨r,0,none⟩) h.lt hr).trans h.c0,(ho.cell (p:=⟨r,1,none⟩) h.lt hr).trans h.c1,(ho.frozen (p:=⟨r,0,none⟩) h.lt hr).trans h.f0,(ho.frozen (p:=⟨r,1,none⟩) h.lt hr).trans h.f1,Nat.lt_of_lt_of_le h.lt ho.size⟩
structure WGro (w w':World) (b:Nat) (row row':Option Nat):Prop where
  only:Only (fun k=>k=b∨some k=row) w w'
  new:row'=row∨∃ g,row'=some g∧w.heap.size≤g
theorem WGro.refl (w:World) (b:Nat) (row:Option Nat):WGro w w b row row:=⟨Only.refl _ _,.inl rfl⟩
theorem WGro.trans {a b c:World} {B:Nat} {r0 r1 r2:Option Nat} (h:WGro a b B r0 r1) (k:WGro b c B r1 r2):WGro a c B r0 r2:=by
  refine ⟨h.only.trans k.only ?_,?_⟩
  · intro i hi ht
    rcases ht with ht | ht
    · exact .inl ht
    · rcases h.new with e | ⟨g,e,hg⟩
      · rw [← e]; exact .inr ht
      · rw [e] at ht; injection ht with ht; omega
  · rcases k.new with e | ⟨g,e,hg⟩
    · rw [e]; exact h.new
    · exact .inr ⟨g,e,Nat.le_trans h.only.size hg⟩
theorem Gro.wgro {w w':World} {row row':Option Nat} (h:Gro w w' row row') (b:Nat):WGro w w' b row row':=⟨h.only.mono (fun _ _=>.inr),h.new⟩
theorem WGro.store {w w':World} {b:Nat} {row row':Option Nat} (h:WGro w w' b row row') (v:Value):WGro w (w'.setCell ⟨b,0,none⟩ v) b row row' :=
  ⟨h.only.trans (Only.setCell w' ⟨b,0,none⟩ v rfl) (fun _ _ e=>.inl e) (T:=fun k=>k=b),h.new⟩
theorem WGro.alloc (w:World) (o:Obj) (b:Nat) (row:Option Nat):WGro w (w.alloc o) b row row:=(Gro.alloc w o row).wgro b
theorem Wr.stored {w:World} {b:Nat} {row:Option Nat} {l:List UInt8} {u v:Value} (hc:w.cell? ⟨b,0,none⟩=some u) (hf:w.frozen? ⟨b,0,none⟩=false) (hr:Row w (b+1) v row l):Wr (w.setCell ⟨b,0,none⟩ v) b row l:=by
  have hb:b < w.heap.size:=World.block_lt_of_cell? w ⟨b,0,none⟩ hc
  refine ⟨⟨v,World.cell?_setCell_same w ⟨b,0,none⟩ v hc,hr.kept (Only.setCell (S:=fun k=>k=b) w ⟨b,0,none⟩ v rfl) ?_⟩,by simpa using hf,by simpa using hb⟩
  intro k hk e
  have:=hr.lt k hk
  omega
theorem Rd.set0 {w:World} {r:Nat} {s:ByteArray} {x:Int} (h:Rd w r s x) (t:ByteArray):Rd (w.setCell ⟨r,0,none⟩ (.string t)) r t x :=
  ⟨World.cell?_setCell_same _ _ _ h.c0,(World.cell?_setCell_other _ _ _ _ (by simp)).trans h.c1,by simpa using h.f0,by simpa using h.f1,by simpa using h.lt⟩
theorem Rd.set1 {w:World} {r:Nat} {s:ByteArray} {x:Int} (h:Rd w r s x) (y:Int):Rd (w.setCell ⟨r,1,none⟩ (.int .i64 y)) r s y :=
  ⟨(World.cell?_setCell_other _ _ _ _ (by simp)).trans h.c0,World.cell?_setCell_same _ _ _ h.c1,by simpa using h.f0,by simpa using h.f1,by simpa using h.lt⟩
theorem Wr.new (w:World):Wr (w.alloc (.cells #[.slice none 0 0] 189)) w.heap.size none [] :=
  ⟨⟨.slice none 0 0,by simp,⟨World.ownsRow_nil _ _ _ _,rfl⟩⟩,by simp,by simp⟩
theorem Rd.new (w:World) (s:ByteArray):Rd (w.alloc (.cells #[.string s,.int .i64 0] 233)) w.heap.size s 0 :=
  ⟨by simp,by simp,by simp,by simp,by simp⟩
theorem Rd.alloc {w:World} {r:Nat} {s:ByteArray} {x:Int} (h:Rd w r s x) (o:Obj):Rd (w.alloc o) r s x:=h.kept (Only.alloc (fun _=>False) w o) (fun h=>h)
def nums (zs:List Int):List UInt8:=(zs.map fun z=>sev z.toNat).flatten
theorem nums_snoc (zs:List Int) (k:Nat) (h:k < zs.length):nums (zs.take (k+1))=nums (zs.take k)++sev (zs.getD k 0).toNat:=by
  have e:zs.getD k 0=zs[k]:=by simp [List.getD,List.getElem?_eq_getElem h]
  rw [List.take_succ_eq_append_getElem h,e]
  unfold nums
  rw [List.map_append,List.flatten_append]
  simp
theorem nums_len (zs:List Int):(nums zs).length≤10 * zs.length:=by
  induction zs with
  | nil=>simp [nums]
  | cons z zs ih=>
    have h:(sev z.toNat).length≤10:=sevF_len 9 z.toNat
    simp only [nums,List.map_cons,List.flatten_cons,List.length_append,List.length_cons] at ih ⊢
    omega
theorem new_any (w:World) :
    Calls Tryz.prog 65 #[] w fun e w'=>e=.returned (.pointer (some ⟨w.heap.size,0,none⟩))∧w'=w.alloc (.cells #[.slice none 0 0] 189):=by
  go_enter Tryz.func65,Tryz.ntmps65
  go_wp2
  go_ret
  exact ⟨rfl,rfl⟩
theorem read_any (s:ByteArray) (w:World) :
    Calls Tryz.prog 141 #[.string s] w fun e w'=>e=.returned (.pointer (some ⟨w.heap.size,0,none⟩))∧w'=w.alloc (.cells #[.string s,.int .i64 0] 233):=by
  go_enter Tryz.func141,Tryz.ntmps141
  go_wp2
  go_ret
  exact ⟨rfl,rfl⟩
theorem rerr_nil (w:World):Calls Tryz.prog 168 #[.pointer none] w fun e w'=>e=.returned (.int .i64 2)∧w'=w:=by
  go_enter Tryz.func168,Tryz.ntmps168
  go_wp2
  go_ret
  exact ⟨rfl,rfl⟩
theorem rerr_any (w:World) (r:Nat) (x:Int) (hc:w.cell? ⟨r,1,none⟩=some (.int .i64 x)):Calls Tryz.prog 168 #[.pointer (some ⟨r,0,none⟩)] w fun e w'=>e=.returned (.int .i64 x)∧w'=w:=by
  go_enter Tryz.func168,Tryz.ntmps168
  go_wp2
  go_ret
  exact ⟨rfl,rfl⟩
theorem rleft_any (w:World) (r:Nat) (s:ByteArray) (hc:w.cell? ⟨r,0,none⟩=some (.string s)):Calls Tryz.prog 169 #[.pointer (some ⟨r,0,none⟩)] w fun e w'=>e=.returned (.int .i64 s.size)∧w'=w:=by
  go_enter Tryz.func169,Tryz.ntmps169
  go_wp2
  go_ret
  exact ⟨rfl,rfl⟩
theorem rend_nil (w:World):Calls Tryz.prog 143 #[.pointer none] w fun e w'=>e=.returned (.int .i64 2)∧w'=w:=by
  go_enter Tryz.func143,Tryz.ntmps143
  go_wp2_with (go_at_call 168; refine (rerr_nil _).mono ?_; rintro e w' ⟨rfl,rfl⟩)
  go_ret
  exact ⟨rfl,rfl⟩
theorem rend_err (w:World) (r:Nat) (x:Int) (hc:w.cell? ⟨r,1,none⟩=some (.int .i64 x)) (hx:(x != 0)=true):Calls Tryz.prog 143 #[.pointer (some ⟨r,0,none⟩)] w fun e w'=>e=.returned (.int .i64 x)∧w'=w:=by
  go_enter Tryz.func143,Tryz.ntmps143
  go_wp2_with (go_at_call 168; refine (rerr_any _ r x hc).mono ?_; rintro e w' ⟨rfl,rfl⟩)
  go_ret
  exact ⟨rfl,rfl⟩
theorem rend_ok (w:World) (r:Nat) (s:ByteArray) (hc:w.cell? ⟨r,1,none⟩=some (.int .i64 0)) (hs:w.cell? ⟨r,0,none⟩=some (.string s)):Calls Tryz.prog 143 #[.pointer (some ⟨r,0,none⟩)] w fun e w'=>e=.returned (.int .i64 (if s.size=0 then 0 else 12))∧w'=w:=by
  by_cases hz:s.size=0
  · rw [if_pos hz]
    have hz':¬ (0:Int) < (s.size:Int):=by omega
    clear hz
    go_enter Tryz.func143,Tryz.ntmps143
    go_wp2_with (first | (go_at_call 168; refine (rerr_any _ r 0 hc).mono ?_; rintro e w' ⟨rfl,rfl⟩) | (go_at_call 169; refine (rleft_any _ r s hs).mono ?_; rintro e w' ⟨rfl,rfl⟩))
    go_ret
    exact ⟨rfl,rfl⟩
  · rw [if_neg hz]
    have hz':(0:Int) < (s.size:Int):=by omega
    clear hz
    go_enter Tryz.func143,Tryz.ntmps143
    go_wp2_with (first | (go_at_call 168; refine (rerr_any _ r 0 hc).mono ?_; rintro e w' ⟨rfl,rfl⟩) | (go_at_call 169; refine (rleft_any _ r s hs).mono ?_; rintro e w' ⟨rfl,rfl⟩))
    go_ret
    exact ⟨rfl,rfl⟩
theorem fail_any (w:World) (r:Nat) (s:ByteArray) (x y:Int) (h0:w.cell? ⟨r,0,none⟩=some (.string s)) (h1:w.cell? ⟨r,1,none⟩=some (.int .i64 y)) (f0:w.frozen? ⟨r,0,none⟩=false) (f1:w.frozen? ⟨r,1,none⟩=false) :
    Calls Tryz.prog 171 #[.pointer (some ⟨r,0,none⟩),.int .i64 x] w fun e w'=>e=.returned (.tuple #[])∧w'=(w.setCell ⟨r,0,none⟩ (.string ⟨#[]⟩)).setCell ⟨r,1,none⟩ (.int .i64 x):=by
  go_enter Tryz.func171,Tryz.ntmps171
  go_wp2
  go_end0
  exact ⟨rfl,rfl⟩
set_option maxHeartbeats 800000 in
theorem sevens_any (s:ByteArray) (w:World) :
    Calls Tryz.prog 170 #[.string s] w fun e w'=>e=.returned (.tuple #[.int .i64 (rd 0 0 s.data.toList).1,.int .i64 (rd 0 0 s.data.toList).2.1,.int .i64 (rd 0 0 s.data.toList).2.2])∧w'=w:=by
  obtain ⟨R,hR⟩:=exq (rd 0 0 s.data.toList)
  rw [hR]
  have HR:Hid (rd 0 0 s.data.toList=R):=hR
  clear hR
  go_enter Tryz.func170,Tryz.ntmps170
  go_wp2
  go_loop [2,5] (fun n i=>∃ (k:Nat) (q:Int),k≤s.size∧k≤8∧i=.int .i64 k∧n=.int .i64 q∧Hid (rd k q (s.data.toList.drop k)=R)∧0≤q∧Hid (q < 128 ^ k)) (fun _ i=>s.size - (intOf i).toNat)
  case atStart=>exact ⟨0,0,Nat.zero_le _,by omega,rfl,rfl,HR,by omega,(by unfold Hid; decide)⟩
  case round=>
    obtain ⟨k,q,hk,hk8,rfl,rfl,HQ,q0,q1⟩:=hrel
    by_cases hlt:k < s.size
    · have hb:=s[k].toNat_lt
      have HD:Hid (rd k q (s[k] :: s.data.toList.drop (k+1))=R):=by unfold Hid; rw [← drop_cons s k hlt]; exact HQ.out
      clear HQ
      by_cases h1:(s[k].toNat:Int) < 128
      · have HO:Hid (bits BinOp.or IntKind.i64 q (wrap64 ((s[k].toNat:Int) * 2 ^ (7 * k)))=q+(s[k].toNat:Int) * 128 ^ k):=(or_shift k q _ hk8 q0 q1.out (by omega) h1).1
        by_cases h2:(s[k].toNat:Int)=0
        · have h2':((s[k].toNat:Int) == 0)=true:=by simpa using h2
          by_cases h3:0 < k
          · have HE:Hid (R=(0,0,11)):=rd_zero HD.out h1 h2 h3
            clear h2
            go_wp2
            go_ret3
            rw [HE.out]
            exact ⟨rfl,rfl⟩
          · have HE:Hid (R=(q+(s[k].toNat:Int) * 128 ^ k,(k:Int)+1,0)):=rd_last HD.out h1 (by omega)
            clear h2
            go_wp2
            go_ret3
            rw [HE.out,HO.out]
            exact ⟨rfl,rfl⟩
        · have h2':((s[k].toNat:Int) == 0)=false:=by simpa using h2
          have HE:Hid (R=(q+(s[k].toNat:Int) * 128 ^ k,(k:Int)+1,0)):=rd_last HD.out h1 (by omega)
          clear h2
          go_wp2
          go_ret3
          rw [HE.out,HO.out]
          exact ⟨rfl,rfl⟩
      · by_cases h3:k=8
        · have h3':((k:Int) == 8)=true:=by simp; omega
          have HE:Hid (R=(0,0,11)):=rd_nine HD.out h1 h3
          clear h3
          go_wp2
          go_ret3
          rw [HE.out]
          exact ⟨rfl,rfl⟩
        · have h3':((k:Int) == 8)=false:=by simp; omega
          have HO:=or_shift k q ((s[k].toNat:Int) - 128) hk8 q0 q1.out (by omega) (by omega)
          have HO':Hid (bits BinOp.or IntKind.i64 q (wrap64 (((s[k].toNat:Int) - 128) * 2 ^ (7 * k)))=q+((s[k].toNat:Int) - 128) * 128 ^ k∧0≤q+((s[k].toNat:Int) - 128) * 128 ^ k∧q+((s[k].toNat:Int) - 128) * 128 ^ k < 128 ^ (k+1)):=HO
          clear HO
          go_wp2
          go_round
          case rel=>exact ⟨k+1,q+((s[k].toNat:Int) - 128) * 128 ^ k,by omega,by omega,by go_num,by rw [HO'.out.1],rd_more HD.out h1 h3,HO'.out.2.1,HO'.out.2.2⟩
          case measure=>simp [intOf]; omega
    · have HE:Hid (R=(0,0,10)):=by
        unfold Hid; have h:=HQ.out; rw [drop_none s k hlt] at h; rw [← h]; rfl
      go_wp2
      go_ret3
      rw [HE.out]
      exact ⟨rfl,rfl⟩
set_option maxHeartbeats 800000 in
theorem appendSevens_any (w:World) (v:Value) (row:Option Nat) (l:List UInt8) (base:Nat) (n:Nat) (hown:Row w base v row l) (hb:base≤w.heap.size) (hn:n < 9223372036854775808) (hl:l.length+10≤158329674399744) :
    Calls Tryz.prog 111 #[v,.int .i64 n] w fun e w'=>∃ v' row',e=.returned v'∧Row w' base v' row' (l++sev n)∧Gro w w' row row':=by
  obtain ⟨i0,hi,hz0,hz1,hz2⟩:=info_parts Tryz.infoByte
  go_enter Tryz.func111,Tryz.ntmps111
  go_wp2
  go_loopw [0,1] (fun x y wr=>∃ (q f:Nat) (row':Option Nat) (l':List UInt8),y=.int .i64 q∧Row wr base x row' l'∧f≤9∧q < 9223372036854775808∧Hid (q < 128 ^ f)∧Hid (l'++sevF f q=l++sev n)∧Gro w wr row row'∧l'.length+f≤l.length+9)
    (fun _ y _=>(intOf y).toNat)
  case atStart=>exact ⟨n,9,row,l,rfl,hown,by omega,hn,(by unfold Hid; omega),(by unfold Hid; rfl),Gro.refl _ _,by omega⟩
  case round=>
    obtain ⟨q,f,row',l',rfl,hr,hf,hq,Hq,HL,hgr,hlen⟩:=hrel
    by_cases hlt:(128:Int)≤q
    · have hd:∀ o:World,o=wr.alloc (.cells #[.int .u8 ((q:Int) % 128+128)] 5)→o.cell? ⟨wr.heap.size,0,none⟩=some (.int .u8 (((UInt8.ofNat (q % 128+128)).toNat:Nat):Int)):=by
        intro o ho
        subst ho
        rw [byte_nat (by omega)]
        simp
      have HD:Hid (∀ o:World,o=wr.alloc (.cells #[.int .u8 ((q:Int) % 128+128)] 5)→o.cell? ⟨wr.heap.size,0,none⟩=some (.int .u8 (((UInt8.ofNat (q % 128+128)).toNat:Nat):Int))):=hd
      clear hd
      go_wp2_with (at_builtin; go_must (refine wpList_byte _ rfl (.tmp 7) (.tmp 12) 112 rfl base i0 Tryz.underlying112 hi hz0 hz1 hz2 _ row' l' rfl (hr.alloc _) ⟨wr.heap.size,0,none⟩ 1 (UInt8.ofNat (q % 128+128)) rfl (HD.out _ rfl) (by omega) (by have:=hgr.only.size; simp; omega) ?_); intro v1 w1 row1 hr1 ho1 hrow1)
      obtain ⟨f',hf',HL',Hq'⟩:=sevF_step HL.out Hq.out (by omega)
      go_roundw
      case rel=>exact ⟨q / 128,f',row1,l'++[UInt8.ofNat (q % 128+128)],by go_num,hr1,by omega,by omega,Hq',HL',hgr.trans ((Gro.alloc _ _ _).trans (Gro.one ho1 hrow1)),by simp; omega⟩
      case measure=>simp [intOf]; omega
    · go_wp2_with (at_builtin; go_must (refine wpList_byte _ rfl (.tmp 16) (.tmp 19) 112 rfl base i0 Tryz.underlying112 hi hz0 hz1 hz2 _ row' l' rfl (hr.alloc _) ⟨wr.heap.size,0,none⟩ 1 (UInt8.ofNat q) rfl (by rw [byte_nat (by omega)]; simp) (by omega) (by have:=hgr.only.size; simp; omega) ?_); intro v1 w1 row1 hr1 ho1 hrow1)
      have hl2:l++sev n=l'++[UInt8.ofNat q]:=by rw [← HL.out,sevF_end (by omega)]
      go_ret
      rw [hl2]
      exact ⟨_,rfl,row1,hr1,hgr.trans ((Gro.alloc _ _ _).trans (Gro.one ho1 hrow1))⟩
theorem appendSevens_int (w:World) (v:Value) (row:Option Nat) (l:List UInt8) (base:Nat) (z:Int) (hown:Row w base v row l) (hb:base≤w.heap.size) (h0:0≤z) (hn:z < 9223372036854775808) (hl:l.length+10≤158329674399744) :
    Calls Tryz.prog 111 #[v,.int .i64 z] w fun e w'=>∃ v' row',e=.returned v'∧Row w' base v' row' (l++sev z.toNat)∧Gro w w' row row':=by
  obtain ⟨n,rfl⟩:=Int.eq_ofNat_of_zero_le h0
  rw [Int.toNat_natCast]
  exact appendSevens_any w v row l base n hown hb (by omega) hl
theorem wnum_none (w:World) (b:Nat) (ao:Option Addr) (c:Nat):Calls Tryz.prog 66 #[.pointer (some ⟨b,0,none⟩),.slice ao 0 c] w fun e w'=>e=.returned (.tuple #[])∧w'=w:=by
  go_enter Tryz.func66,Tryz.ntmps66
  go_wp2
  refine wp_loop_rounds 1 ?_
  rw [rounds_succ]
  go_wp2
  go_end0
  exact ⟨rfl,rfl⟩
set_option maxHeartbeats 800000 in
theorem wnum_any (w:World) (b:Nat) (row:Option Nat) (l:List UInt8) (zs:List Int) (g off cap:Nat) (hW:Wr w b row l)
    (hc:∀ k,k < zs.length→w.cell? ⟨g,off+k,none⟩=some (.int .i64 (zs.getD k 0))) (hz:∀ k,k < zs.length→zs.getD k 0 < 9223372036854775808)
    (hgb:g≠b) (hgr:some g≠row) (hgl:g < w.heap.size) (hl:l.length+10 * zs.length+10≤158329674399744) :
    Calls Tryz.prog 66 #[.pointer (some ⟨b,0,none⟩),.slice (some ⟨g,off,none⟩) zs.length cap] w fun e w'=>e=.returned (.tuple #[])∧∃ row',Wr w' b row' (l++nums zs)∧WGro w w' b row row':=by
  go_enter Tryz.func66,Tryz.ntmps66
  go_wp2
  go_loopw [10] (fun i wr=>∃ (k:Nat) (row':Option Nat),k≤zs.length∧i=.int .i64 k∧Wr wr b row' (l++nums (zs.take k))∧WGro w wr b row row')
    (fun i _=>zs.length - (intOf i).toNat)
  case atStart=>exact ⟨0,row,Nat.zero_le _,rfl,by simpa [nums] using hW,WGro.refl _ _ _⟩
  case round=>
    obtain ⟨k,row',hk,rfl,hWr,hg⟩:=hrel
    by_cases hlt:k < zs.length
    · have hck:wr.cell? ⟨g,off+k,none⟩=some (.int .i64 (zs.getD k 0)):=(hg.only.cell (p:=⟨g,off+k,none⟩) hgl (by simp; exact ⟨hgb,hgr⟩)).trans (hc k hlt)
      have hzk:=hz k hlt
      obtain ⟨z,hzz⟩:=exq (zs.getD k 0)
      rw [hzz] at hck hzk
      have HZ:Hid (zs.getD k 0=z):=hzz
      clear hzz
      obtain ⟨⟨v,hcv,hrv⟩,hfz,hbl⟩:=hWr
      have hlen:(l++nums (zs.take k)).length+10≤158329674399744:=by
        have h1:=nums_len (zs.take k)
        have h2:(zs.take k).length≤k:=List.length_take_le _ _
        rw [List.length_append]; omega
      have hnb:some b≠row':=by
        intro e
        have h1:=hrv.lt b e.symm
        omega
      have HN:Hid (nums (zs.take (k+1))=nums (zs.take k)++sev z.toNat):=by unfold Hid; rw [nums_snoc zs k hlt,HZ.out]
      have fin:∀ (v1:Value) (w1:World) (row1:Option Nat),Row w1 (b+1) v1 row1 (l++nums (zs.take k)++sev z.toNat)→Gro wr w1 row' row1 →
          Wr (w1.setCell ⟨b,0,none⟩ v1) b row1 (l++nums (zs.take (k+1)))∧WGro w (w1.setCell ⟨b,0,none⟩ v1) b row row1:=by
        intro v1 w1 row1 hr1 hg1
        refine ⟨?_,(hg.trans (hg1.wgro b)).store v1⟩
        rw [HN.out,← List.append_assoc]
        have hc1:w1.cell? ⟨b,0,none⟩=some v:=(hg1.only.cell (p:=⟨b,0,none⟩) hbl hnb).trans hcv
        have hf1:w1.frozen? ⟨b,0,none⟩=false:=(hg1.only.frozen (p:=⟨b,0,none⟩) hbl hnb).trans hfz
        exact Wr.stored hc1 hf1 hr1
      have FIN:=hide fin
      clear fin
      by_cases hneg:z < 0
      · have HZ0:Hid (z.toNat=(0:Int).toNat):=by unfold Hid; omega
        go_wp2_with fail
        refine (appendSevens_int _ v row' _ (b+1) 0 hrv (by omega) (by omega) (by omega) hlen).mono ?_
        rintro e w1 ⟨v1,row1,rfl,hr1,hg1⟩
        have hr1':Row w1 (b+1) v1 row1 (l++nums (zs.take k)++sev z.toNat):=by rw [HZ0.out]; exact hr1
        have hc1:w1.cell? ⟨b,0,none⟩=some v:=(hg1.only.cell (p:=⟨b,0,none⟩) hbl hnb).trans hcv
        have hf1:w1.frozen? ⟨b,0,none⟩=false:=(hg1.only.frozen (p:=⟨b,0,none⟩) hbl hnb).trans hfz
        obtain ⟨ao,ln,cp,rfl⟩:=hr1.form
        go_wp2
        have hfin:=unhide FIN _ _ _ hr1' hg1
        go_roundw
        case rel=>exact ⟨k+1,row1,by omega,by go_num,hfin.1,hfin.2⟩
        case measure=>simp [intOf]; omega
      · go_wp2_with fail
        refine (appendSevens_int _ v row' _ (b+1) z hrv (by omega) (by omega) (by omega) hlen).mono ?_
        rintro e w1 ⟨v1,row1,rfl,hr1,hg1⟩
        have hc1:w1.cell? ⟨b,0,none⟩=some v:=(hg1.only.cell (p:=⟨b,0,none⟩) hbl hnb).trans hcv
        have hf1:w1.frozen? ⟨b,0,none⟩=false:=(hg1.only.frozen (p:=⟨b,0,none⟩) hbl hnb).trans hfz
        have hr1':=hr1
        obtain ⟨ao,ln,cp,rfl⟩:=hr1.form
        go_wp2
        have hfin:=unhide FIN _ _ _ hr1' hg1
        go_roundw
        case rel=>exact ⟨k+1,row1,by omega,by go_num,hfin.1,hfin.2⟩
        case measure=>simp [intOf]; omega
    · have HT:Hid (zs.take k=zs):=List.take_of_length_le (by omega)
      go_wp2
      go_end0
      exact ⟨rfl,row',by have h:=hWr; rw [HT.out] at h; exact h,hg⟩
set_option maxHeartbeats 400000 in
theorem wbytes_any (w:World) (b:Nat) (row:Option Nat) (l:List UInt8) (hW:Wr w b row l) :
    Calls Tryz.prog 67 #[.pointer (some ⟨b,0,none⟩)] w fun e w'=>e=.returned (.string ⟨l.toArray⟩)∧w'=w:=by
  obtain ⟨⟨v,hcv,hrv⟩,hfz,hbl⟩:=hW
  have hcv2:=bytes_back w _ v row l hrv
  go_enter Tryz.func67,Tryz.ntmps67
  go_wp2
  go_ret
  exact ⟨rfl,rfl⟩
theorem wnum_one (w:World) (b:Nat) (row:Option Nat) (l:List UInt8) (z:Int) (hW:Wr w b row l) (hz:z < 9223372036854775808) (hl:l.length+20≤158329674399744) :
    Calls Tryz.prog 66 #[.pointer (some ⟨b,0,none⟩),.slice (some ⟨w.heap.size,0,none⟩) 1 1] (w.alloc (.cells #[.int .i64 z] 3)) fun e w'=>e=.returned (.tuple #[])∧∃ row',Wr w' b row' (l++sev z.toNat)∧WGro w w' b row row':=by
  have hW1:Wr (w.alloc (.cells #[.int .i64 z] 3)) b row l:=hW.kept (Only.alloc (fun _=>False) w _) (fun h=>h) (fun _ _ h=>h)
  have hb:=hW.lt
  have h:=wnum_any (w.alloc (.cells #[.int .i64 z] 3)) b row l [z] w.heap.size 0 1 hW1
    (by intro k hk; have e:k=0:=by simpa using hk
        subst e; simp)
    (by intro k hk; have e:k=0:=by simpa using hk
        subst e; simpa using hz)
    (by omega) (by intro e; have:=(hW.rowLt _ e.symm).2; omega) (by simp) (by simpa using hl)
  refine Calls.mono h ?_
  rintro e w' ⟨he,row',h1,h2⟩
  refine ⟨he,row',?_,(WGro.alloc w _ b row).trans h2⟩
  simpa [nums] using h1
set_option maxHeartbeats 800000 in
theorem wtext_any (w:World) (b:Nat) (row:Option Nat) (l:List UInt8) (s:ByteArray) (hW:Wr w b row l) (hl:l.length+s.size+30≤158329674399744) :
    Calls Tryz.prog 123 #[.pointer (some ⟨b,0,none⟩),.string s] w fun e w'=>e=.returned (.tuple #[])∧∃ row',Wr w' b row' (l++(sev s.size++s.data.toList))∧WGro w w' b row row':=by
  obtain ⟨i0,hi,hz0,hz1,hz2⟩:=info_parts Tryz.infoByte
  go_enter Tryz.func123,Tryz.ntmps123
  go_wp2_with fail
  refine (wnum_one w b row l (s.size:Int) hW (by omega) (by omega)).mono ?_
  rintro e w1 ⟨rfl,row1,hW1,hg1⟩
  rw [Int.toNat_natCast] at hW1
  have hsl:(sev s.size).length≤10:=sevF_len 9 s.size
  have hll:(l++sev s.size).length+s.size≤158329674399744:=by rw [List.length_append]; omega
  have HF:Hid (Wr w1 b row1 (l++sev s.size)):=hW1
  obtain ⟨⟨v,hcv,hrv⟩,hfz,hbl⟩:=hW1
  have hnb:some b≠row1:=by
    intro e
    have h1:=hrv.lt b e.symm
    omega
  go_wp2_with (at_builtin; go_must (refine wpList_text _ rfl (.tmp 15) (.tmp 16) 112 9 rfl (b+1) i0 Tryz.underlying112 Tryz.underlying9 hi hz0 hz1 hz2 v row1 (l++sev s.size) rfl hrv s rfl hll (by omega) ?_); intro v2 w2 row2 hr2 hg2; obtain ⟨hc2,hf2⟩:w2.cell? ⟨b,0,none⟩=some v∧w2.frozen? ⟨b,0,none⟩=false:=⟨(hg2.only.cell (p:=⟨b,0,none⟩) hbl hnb).trans hcv,(hg2.only.frozen (p:=⟨b,0,none⟩) hbl hnb).trans hfz⟩; have hr2':=hide hr2; obtain ⟨ao,ln,cp,rfl⟩:=hr2.form)
  go_end0
  rw [← List.append_assoc]
  exact ⟨rfl,row2,Wr.stored hc2 hf2 (unhide hr2'),(hg1.trans (hg2.wgro b)).store _⟩
end Go.Proofs.YtajjakljheafjaaGreat
