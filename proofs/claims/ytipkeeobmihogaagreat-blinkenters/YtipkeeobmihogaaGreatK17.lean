/- Parts. -/
import Derived.Deep.RegionWith
import Derived.Deep.DeepCutAuto
import Derived.Lib.Repeat
import Derived.Test.YtipkeeobmihogaaGreatK16
set_option maxRecDepth 100000
namespace Go.Proofs.YtipkeeobmihogaaGreat
open Go.RowKit
structure Lay (W0 w:World) (v:Value) (l:List UInt8):Prop where
  row:∃ row,Row w W0.heap.size v row l
  only:Only (fun k=>W0.heap.size≤k) W0 w
theorem Lay.more {W0 w w':World} {v:Value} {l:List UInt8} (h:Lay W0 w v l) (ho:Only (fun _=>False) w w'):Lay W0 w' v l:=by
  obtain ⟨row,hr⟩:=h.row
  exact ⟨⟨row,hr.kept ho (fun _ _ h=>h)⟩,h.only.trans ho (fun _ _ h=>h.elim)⟩
theorem Lay.text {W0 w:World} {v:Value} {l:List UInt8} (h:Lay W0 w v l) (s:ByteArray) (hn:l.length+s.size≤158329674399744) :
    ∃ v' w',(Builtin.append_ #[142,9] 142 #[v,.string s]).run Tryz.prog w=.ok v' w'∧Lay W0 w' v' (l++bl s):=by
  obtain ⟨i0,hi,hz0,hz1,hz2⟩:=info_parts Tryz.infoByte
  obtain ⟨row,hr⟩:=h.row
  obtain ⟨v',w',hrun,h2,h3,_⟩:=append_string (P:=Tryz.prog) w W0.heap.size 142 9 142 5 i0 Tryz.underlying142 Tryz.underlying9 hi hz0 hz1 hz2 v l.length (cells l) hr.own s hn h.only.size
  refine ⟨v',w',hrun,⟨⟨v'.ownBlock,?_,rfl⟩,h.only.trans (Only.grown (S:=fun k=>W0.heap.size≤k) h3 (fun k hk=>(World.ownsRow.lt hr.own k hk).1)) (fun _ _ h=>h)⟩⟩
  have e:l.length+s.size=(l++bl s).length:=by simp
  rw [cells_append,← e]
  exact h2
theorem Lay.two {W0 w:World} {v:Value} {l:List UInt8} (h:Lay W0 w v l) (x y:Int) (hx0:0≤x) (hx1:x < 256) (hy0:0≤y) (hy1:y < 256) (hn:l.length+2≤158329674399744) :
    ∃ v' w',(Builtin.append_ #[142,142] 142 #[v,.slice (some ⟨w.heap.size,0,none⟩) 2 2]).run Tryz.prog (w.alloc (.cells #[.int .u8 x,.int .u8 y] 5))=.ok v' w'∧Lay W0 w' v' (l++[u8 x,u8 y]):=by
  obtain ⟨i0,hi,hz0,hz1,hz2⟩:=info_parts Tryz.infoByte
  have h':=h.more (onlyA w (.cells #[.int .u8 x,.int .u8 y] 5))
  obtain ⟨row,hr⟩:=h'.row
  have ex:=u8_to x hx0 hx1
  have ey:=u8_to y hy0 hy1
  obtain ⟨v',w',hrun,h2,h3,_⟩:=append_bytes (P:=Tryz.prog) _ W0.heap.size 142 142 5 i0 Tryz.underlying142 hi hz0 hz1 hz2 v l.length (cells l) hr.own ⟨w.heap.size,0,none⟩ 2 2 (cells [u8 x,u8 y]) rfl
    (fun j u hu=>by
      match j,hu with
      | 0,hu=>simp [cells] at hu; rw [← hu,add_at,ex]; simp
      | 1,hu=>simp [cells] at hu; rw [← hu,add_at,ey]; simp)
    (by intro u hu; simp [cells] at hu; rcases hu with rfl | rfl <;> rfl) hn (by decide) h'.only.size
  refine ⟨v',w',hrun,⟨⟨v'.ownBlock,?_,rfl⟩,h'.only.trans (Only.grown (S:=fun k=>W0.heap.size≤k) h3 (fun k hk=>(World.ownsRow.lt hr.own k hk).1)) (fun _ _ h=>h)⟩⟩
  have e:l.length+2=(l++[u8 x,u8 y]).length:=by simp
  rw [cells_append,← e]
  exact h2
theorem only_below {w w':World} (hb:Below w.heap.size w w'):Only (fun _=>False) w w':=⟨hb.os,hb.tape,hb.output,hb.size,fun k hk _=>hb.block k hk⟩
theorem big_int (n:Int) (k:Nat) (w:World) (hk:1≤k) (hk8:k≤8) (h0:0≤n) (hn:n < 9223372036854775808) :
    Calls Tryz.prog 77 #[.int .i64 n,.int .i64 k] w fun e w'=>e=.returned (.string (str (bigF k n.toNat)))∧Only (fun _=>False) w w':=by
  obtain ⟨m,rfl⟩:=Int.eq_ofNat_of_zero_le h0
  rw [Int.toNat_natCast]
  exact big_any m k w hk hk8 (by omega)
theorem big_nat (n k:Nat) (w:World) (hk:1≤k) (hk8:k≤8) (hn:n < 9223372036854775808) :
    Calls Tryz.prog 77 #[.int .i64 n,.int .i64 k] w fun e w'=>e=.returned (.string (str (bigF k n)))∧Only (fun _=>False) w w':=big_any n k w hk hk8 hn
theorem cat_eq (a:List UInt8) (s:ByteArray):(⟨a.toArray⟩:ByteArray)++s=⟨(a++s.data.toList).toArray⟩:=by
  obtain ⟨⟨l⟩⟩:=s
  apply ByteArray.ext
  simp
theorem str_cat (a b:List UInt8):str a++str b=str (a++b):=cat_eq a ⟨b.toArray⟩
theorem rep_zero (c:Nat):Lib.repeatL (⟨#[0]⟩:ByteArray).data.toList c=List.replicate c 0:=by
  induction c with
  | zero=>rfl
  | succ c ih=>rw [Lib.repeatL,ih,List.replicate_succ]; rfl
theorem lay_new {W0 w1:World} {n:Nat} {v:Value} (hz:W0.heap.size=n) (hw:w1.ownsRow n 5 1 v 0 []) (hg:W0.grownBy w1 none):Lay W0 w1 v []:=by
  subst hz
  exact ⟨⟨v.ownBlock,hw,rfl⟩,Only.grown hg (fun k hk=>by cases hk)⟩
theorem size_conv (wr:World) (a k v r:Int) (h:ByteArray) (B cp:Nat) (ao:Option Addr) (l:List ByteArray) (hS:Strs wr B ao l) (hh:h.size≤255) (hl:l.length≤255) (u:Value) (X:ByteArray)
    (hcv:∀ W,Only (fun _=>False) wr W→(convert 142 9 u).run Tryz.prog W=.ok (.string X) W) (N:Nat) (hN:20+h.size+isz l=N) (W:World) (hW:Only (fun _=>False) wr W) :
    Calls Tryz.prog 107 #[.agg #[.int .i64 a,.int .i64 k,.int .i64 v,.int .i64 r,.string h,.slice ao l.length cp]] W fun e w'=>e=.returned (.int .i64 (N:Int))∧(convert 142 9 u).run Tryz.prog w'=.ok (.string X) w'∧Hid (Only (fun _=>False) wr w'):=by
  have h1:=psize_any W a k v r h B cp ao l (hS.more hW) (by omega)
  have h2:wrap64 (20+h.size+isz l)=(N:Int):=by
    rw [w64_few hS.size (by omega) hl]
    omega
  rw [h2] at h1
  exact h1.mono (fun e w' hx=>⟨hx.1,hcv _ (o2 hW hx.2),o2 hW hx.2⟩)
theorem rep_conv (wr:World) (u:Value) (X:ByteArray) (hcv:∀ W,Only (fun _=>False) wr W→(convert 142 9 u).run Tryz.prog W=.ok (.string X) W) (c:Nat) (hc:c≤512) (W:World) (hW:Only (fun _=>False) wr W) :
    Calls Tryz.prog 108 #[.string ⟨#[0]⟩,.int .i64 (c:Int)] W fun e w'=>e=.returned (.string (str (List.replicate c 0)))∧(convert 142 9 u).run Tryz.prog w'=.ok (.string X) w'∧Hid (Only (fun _=>False) wr w'):=by
  have e1:(⟨#[0]⟩:ByteArray).size=1:=rfl
  have h1:=Tryz.strings_Repeat ⟨#[0]⟩ c W (by omega) (by rw [e1]; omega)
  refine Calls.mono h1 ?_
  rintro e w' ⟨rfl,hb⟩
  refine ⟨?_,hcv _ (o2 hW (only_below hb)),o2 hW (only_below hb)⟩
  rw [rep_zero]
  rfl
set_option maxHeartbeats 1600000 in
theorem body_any (w:World) (a k v r:Int) (h:ByteArray) (B cp:Nat) (ao:Option Addr) (l:List ByteArray) (hS:Strs w B ao l) (hv:Pg.valid ⟨a,k,v,r,h,l⟩) :
    Calls Tryz.prog 76 #[.agg #[.int .i64 a,.int .i64 k,.int .i64 v,.int .i64 r,.string h,.slice ao l.length cp]] w fun e w'=>e=.returned (.string (str (Pg.body ⟨a,k,v,r,h,l⟩)))∧Only (fun _=>False) w w':=by
  obtain ⟨i0,hi,hz0,hz1,hz2⟩:=info_parts Tryz.infoByte
  have hlen:=hS.len
  have HV:=hide hv
  obtain ⟨⟨r0,r1,r2,r3,r4,r5,r6⟩,⟨f0,f1,f2⟩,hl⟩:=hv
  simp only at r0 r1 r2 r3 r4 r5 r6 f0 f1 f2 hl
  have HF2:=hide f2
  clear f2
  have HS:=hide hS
  clear hS
  obtain ⟨W0,hW0⟩:=exq (w.alloc (.cells #[.int .i64 a,.int .i64 k,.int .i64 v,.int .i64 r,.string h,.slice ao l.length cp] 24))
  have HP:=hide (Pag.new w (.int .i64 a) (.int .i64 k) (.int .i64 v) (.int .i64 r) (.string h) (.slice ao l.length cp))
  have HO0:=hide (onlyA w (.cells #[.int .i64 a,.int .i64 k,.int .i64 v,.int .i64 r,.string h,.slice ao l.length cp] 24))
  rw [hW0] at HP HO0
  have hz:W0.heap.size=w.heap.size+1:=by rw [← hW0]; simp
  have HZ:=hide hz
  have HW0:=hide hW0
  clear hW0 hz
  have hk8:k % 256=k:=by omega
  have hv8:v % 256=v:=by omega
  go_enter Tryz.func76,Tryz.ntmps76
  go_wp2_with (
    at_make
    go_must (refine wpList_make_own _ rfl _ _ 142 rfl (w.heap.size+1) 5 i0 (.int .u8 0) 1 Tryz.underlying142 hi hz0 hz1 .i64 .i64 _ 508 rfl rfl (by omega) (by rw [hz2]; omega) (by unfold maxLen; omega) (by simp) ?_)
    intro w1 hw1 hg1
    rw [HW0.out] at hg1 hw1
    rw [HZ.out] at hw1
    have HL1:=hide (lay_new HZ.out hw1 hg1)
    obtain ⟨p0,p1,p2,p3,p4,p5,g0,g1,g2,g3,g4,g5,gl⟩:=HP.out.kept HL1.out.only (by have:=HZ.out; omega)
    clear hw1 hg1)
  have HPK:Hid (∀ wx,Only (fun k=>W0.heap.size≤k) W0 wx→Pag wx w.heap.size (.int .i64 a) (.int .i64 k) (.int .i64 v) (.int .i64 r) (.string h) (.slice ao l.length cp)):=fun wx hx=>HP.out.kept hx (by have:=HZ.out; omega)
  refine (big_int a 8 w1 (by omega) (by omega) r0 hl).mono ?_
  rintro e w2 ⟨rfl,ho2⟩
  obtain ⟨v3,w3,r3',l3⟩:=(HL1.out.more ho2).text (str (bigF 8 a.toNat)) (by simp [str_size,bigF_len])
  obtain ⟨v4,w4,r4',l4⟩:=l3.two k v (by omega) (by omega) r3 (by omega) (by simp [bl_str,bigF_len])
  have R3:=hide r3'
  have R4:=hide r4'
  have L4:=hide l4
  clear p0 p1 p2 p3 p4 p5 g0 g1 g2 g3 g4 g5 gl
  have x1:=(HPK.out _ l3.only).c1
  have x2:=(HPK.out _ l3.only).c2
  have x3:=(HPK.out _ l4.only).c3
  clear r3' r4' l3 l4 ho2
  go_wp2_with (first
    | (at_builtin; refine Lib.wpList_append_run _ rfl (.tmp 7) (.tmp 10) _ _ rfl _ _ rfl rfl _ _ R3.out ?_)
    | (at_builtin; refine Lib.wpList_append_run _ rfl (.tmp 12) (.tmp 19) _ _ rfl _ _ rfl rfl _ _ R4.out ?_))
  refine (big_int r 4 w4 (by omega) (by omega) r5 (by omega)).mono ?_
  rintro e w5 ⟨rfl,ho5⟩
  obtain ⟨v6,w6,r6',l6⟩:=(L4.out.more ho5).text (str (bigF 4 r.toNat)) (by simp [str_size,bl_str,bigF_len])
  obtain ⟨v7,w7,r7',l7⟩:=l6.two (l.length:Int) (h.size:Int) (by omega) (by omega) (by omega) (by omega) (by simp [bl_str,bigF_len])
  obtain ⟨v8,w8,r8',l8⟩:=l7.text h (by simp [bl_str,bigF_len]; omega)
  have R6:=hide r6'
  have R7:=hide r7'
  have R8:=hide r8'
  have L8:=hide l8
  clear x1 x2 x3
  have y5:=(HPK.out _ l6.only).c5
  have y4:=(HPK.out _ l6.only).c4
  have z4:=(HPK.out _ l7.only).c4
  have u5:=(HPK.out _ l8.only).c5
  have hm1:(l.length:Int) % 256=(l.length:Int):=by omega
  have hm2:(h.size:Int) % 256=(h.size:Int):=by omega
  clear r6' r7' r8' l6 l7 l8 ho5
  go_wp2_with (first
    | (at_builtin; refine Lib.wpList_append_run _ rfl (.tmp 21) (.tmp 24) _ _ rfl _ _ rfl rfl _ _ R6.out ?_)
    | (at_builtin; refine Lib.wpList_append_run _ rfl (.tmp 26) (.tmp 35) _ _ rfl _ _ rfl rfl _ _ R7.out ?_)
    | (at_builtin; refine Lib.wpList_append_run _ rfl (.tmp 37) (.tmp 39) _ _ rfl _ _ rfl rfl _ _ R8.out ?_))
  obtain ⟨hd,hhd⟩:∃ hd,hd=Pg.head ⟨a,k,v,r,h,l⟩++bl h:=⟨_,rfl⟩
  have HL8:Hid (Lay W0 w8 v8 (hd++itemsL (l.take 0))):=by
    have e:=L8.out
    have e2:([]++bl (str (bigF 8 a.toNat))++[u8 k,u8 v]++bl (str (bigF 4 r.toNat))++[u8 (l.length:Int),u8 (h.size:Int)]++bl h:List UInt8)=hd++itemsL (l.take 0):=by
      rw [hhd]
      simp [Pg.head,bl_str,u8,itemsL]
    rw [e2] at e
    exact e
  have HHD:=hide hhd
  have HHL:Hid (hd.length+isz l≤508):=by
    unfold Hid
    rw [hhd,List.length_append,head_len,bl_len]
    have:=HF2.out
    simp only [Pg.size] at this
    omega
  clear hhd L8 R3 R4 R6 R7 R8 HL1 L4
  go_loopw [3,44] (fun x y wr=>∃ (j:Nat),j≤l.length∧y=.int .i64 (j:Int)∧Hid (Lay W0 wr x (hd++itemsL (l.take j)))) (fun _ y _=>l.length - (intOf y).toNat)
  case atStart=>exact ⟨0,by omega,rfl,HL8⟩
  case round=>
    obtain ⟨j,hj,rfl,HL⟩:=hrel
    by_cases hlt:j < l.length
    · have hB:=HS.out.lt (by omega)
      obtain ⟨o1,e1,c1⟩:=((HS.out.more HO0.out).kept HL.out.only (fun _=>by have:=HZ.out; omega)).at_ (by omega)
      have k1:=c1 j hlt
      have hz:=HS.out.size l[j] (List.getElem_mem hlt)
      have hj1:(j:Int) < (l.length:Int):=by omega
      have HT:Hid (itemsL (l.take (j+1))=itemsL (l.take j)++(bigF 2 l[j].size++bl l[j])):=itemsL_snoc l j hlt
      have HB2:Hid (hd.length+isz (l.take j)+2+l[j].size≤508):=by
        have h1:=HHL.out
        have h2:=isz_snoc l j hlt
        have h3:isz (l.take (j+1))≤isz l:=by
          conv=>rhs; rw [← List.take_append_drop (j+1) l,isz_app]
          omega
        unfold Hid
        omega
      obtain ⟨s,hs⟩:=exq (l[j])
      rw [hs] at k1 hz HT HB2
      clear c1 hs hB
      subst e1
      go_wp2_with fail
      refine (big_nat s.size 2 wr (by omega) (by omega) (by omega)).mono ?_
      rintro e w9 ⟨rfl,ho9⟩
      obtain ⟨v10,w10,r10,l10⟩:=(HL.out.more ho9).text (str (bigF 2 s.size)) (by have:=HB2.out; simp only [List.length_append,itemsL_len,str_size,bigF_len]; omega)
      obtain ⟨v11,w11,r11,l11⟩:=l10.text s (by have:=HB2.out; simp only [List.length_append,itemsL_len,bl_str,bigF_len]; omega)
      have R10:=hide r10
      have R11:=hide r11
      have HL11:Hid (Lay W0 w11 v11 (hd++itemsL (l.take (j+1)))):=by
        unfold Hid
        rw [HT.out]
        have e:=l11
        simpa [bl_str] using e
      clear r10 r11 l10 l11 ho9
      go_wp2_with (first
        | (at_builtin; refine Lib.wpList_append_run _ rfl (.tmp 48) (.tmp 51) _ _ rfl _ _ rfl rfl _ _ R10.out ?_)
        | (at_builtin; refine Lib.wpList_append_run _ rfl (.tmp 53) (.tmp 54) _ _ rfl _ _ rfl rfl _ _ R11.out ?_))
      go_roundw
      case rel=>exact ⟨j+1,by omega,by go_num,HL11⟩
      case measure=>simp [intOf]; omega
    · have ej:l.take j=l:=List.take_of_length_le (by omega)
      rw [ej] at HL
      obtain ⟨row,hrow⟩:=HL.out.row
      have HCV:Hid (∀ W,Only (fun _=>False) wr W→(convert 142 9 u3).run Tryz.prog W=.ok (.string (str (hd++itemsL l))) W):=fun W hW=>bytes_back W _ _ _ _ (hrow.kept hW (fun _ _ h=>h))
      obtain ⟨N,hN⟩:=exq (20+h.size+isz l)
      have hN5:N≤512:=by have:=HF2.out; simp only [Pg.size] at this; omega
      obtain ⟨c,hcN⟩:∃ c:Nat,512 - N=c:=⟨_,rfl⟩
      have hsub:(512:Int) - (N:Int)=(c:Int):=by omega
      have hB:0 < l.length→B < w.heap.size:=HS.out.lt
      have hSW:Strs wr B (ao) l:=(HS.out.more HO0.out).kept HL.out.only (fun h0=>by have:=hB h0; have:=HZ.out; omega)
      have HSIZE:=hide (size_conv wr a k v r h B cp ao l hSW f0 f1 u3 _ HCV.out N hN)
      have HREP:=hide (rep_conv wr u3 _ HCV.out c (by omega))
      obtain ⟨X,hX⟩:=exq (str (hd++itemsL l))
      obtain ⟨Y,hY⟩:=exq (str (List.replicate c 0))
      rw [hX] at HCV HSIZE HREP
      rw [hY] at HREP
      have hXs:X.size≤508:=by rw [← hX,str_size,List.length_append,itemsL_len]; exact HHL.out
      have hYs:Y.size≤512:=by rw [← hY,str_size,List.length_replicate]; omega
      have hXY:¬ (9223372036854775807:Int) < (X.size:Int)+(Y.size:Int):=by omega
      have hcv:=HCV.out _ (Only.drew _ wr)
      have hwc:IntKind.i64.wrap (c:Int)=(c:Int):=wraps_i64 _ (by omega) (by omega)
      obtain ⟨p0,p1,p2,p3,p4,p5,_⟩:=HPK.out _ HL.out.only
      have HE:Hid (X++Y=str (Pg.body ⟨a,k,v,r,h,l⟩)):=by
        unfold Hid
        rw [← hX,← hY,str_cat,HHD.out,← hcN,← hN]
        simp [Pg.body,Pg.front,Pg.size]
      have HOW:Hid (Only (fun _=>False) w wr):=HO0.out.trans HL.out.only (fun i hi e=>by have:=HZ.out; omega)
      clear hX hY hrow hN hcN hSW hB ej y4 y5 z4 hm1 hm2
      go_wp2_with fail
      go_region_with (first
        | (go_at_call 107; refine (HSIZE.out _ (Only.drew _ _)).mono ?_; rintro e w9 ⟨rfl,hcv9,HX9⟩)
        | (go_at_call 108; refine (HREP.out _ HX9.out).mono ?_; rintro e w10 ⟨rfl,hcv10,HX10⟩))
      all_goals go_wp2_with fail
      all_goals go_ret
      all_goals exact ⟨by rw [← HE.out]; rfl,o2 HOW.out HX10.out⟩
instance (p:Pg):Decidable p.inRange:=by unfold Pg.inRange; exact inferInstance
instance (p:Pg):Decidable p.fits:=by unfold Pg.fits; exact inferInstance
def Pg.out (p:Pg):List UInt8 × Int:=if p.inRange then (if p.fits then (p.enc,0) else ([],3)) else ([],4)
theorem out_ok {p:Pg} (h1:p.inRange) (h2:p.fits):p.out=(p.enc,0):=by unfold Pg.out; rw [if_pos h1,if_pos h2]
theorem out_long {p:Pg} (h1:p.inRange) (h2:¬ p.fits):p.out=([],3):=by unfold Pg.out; rw [if_pos h1,if_neg h2]
theorem out_range {p:Pg} (h1:¬ p.inRange):p.out=([],4):=by unfold Pg.out; rw [if_neg h1]
set_option maxHeartbeats 1600000 in
theorem pencode_any (w:World) (a k v r:Int) (h:ByteArray) (B cp:Nat) (ao:Option Addr) (l:List ByteArray) (hS:Strs w B ao l) (hh:h.size≤140737488355328) (ha:a < 9223372036854775808) :
    Calls Tryz.prog 34 #[.agg #[.int .i64 a,.int .i64 k,.int .i64 v,.int .i64 r,.string h,.slice ao l.length cp]] w fun e w'=>e=.returned (.tuple #[.string (str (Pg.out ⟨a,k,v,r,h,l⟩).1),.int .i64 (Pg.out ⟨a,k,v,r,h,l⟩).2])∧Only (fun _=>False) w w':=by
  have HS:=hide hS
  clear hS
  have HP:=hide (Pag.new w (.int .i64 a) (.int .i64 k) (.int .i64 v) (.int .i64 r) (.string h) (.slice ao l.length cp))
  have HO0:=hide (onlyA w (.cells #[.int .i64 a,.int .i64 k,.int .i64 v,.int .i64 r,.string h,.slice ao l.length cp] 24))
  go_enter Tryz.func34,Tryz.ntmps34
  go_wp2_with fail
  refine (inRange_any _ a k v r h cp l.length ao).mono ?_
  rintro e w1 ⟨rfl,ho1⟩
  obtain ⟨p0,p1,p2,p3,p4,p5,_⟩:=HP.out.more ho1
  have HO1:=hide ho1
  clear ho1
  by_cases hr:Pg.inRange ⟨a,k,v,r,h,l⟩
  · have hd:decide (0≤a∧1≤k∧k≤3∧0≤v∧v≤255∧0≤r∧r≤4294967295)=true:=decide_eq_true hr
    rw [hd]
    have HR:=hide hr
    clear hr hd
    by_cases hf:Pg.fits ⟨a,k,v,r,h,l⟩
    · have HOUT:=hide (out_ok HR.out hf)
      have HV:Hid (Pg.valid ⟨a,k,v,r,h,l⟩):=⟨HR.out,hf,ha⟩
      have hh2:¬ (255:Int) < (h.size:Int):=by have:=hf.1; simp only at this; omega
      have hdl:decide (255 < l.length∨512 < 20+h.size+isz l)=false:=decide_eq_false (by have h1:=hf.2.1; have h2:=hf.2.2; simp only [Pg.size] at h1 h2; omega)
      have HDL:=hide hdl
      clear hf hdl
      go_wp2_with fail
      refine (tooLong_any _ a k v r h B cp ao l (HS.out.more (o2 HO0.out HO1.out)) hh).mono ?_
      rintro e w2 ⟨rfl,ho2⟩
      rw [HDL.out]
      clear p0 p1 p2 p3 p4 p5
      have HO2:=hide (o2 HO1.out ho2)
      obtain ⟨p0,p1,p2,p3,p4,p5,_⟩:=HP.out.more HO2.out
      clear ho2
      go_wp2_with fail
      refine (body_any _ a k v r h B cp ao l (HS.out.more (o2 HO0.out HO2.out)) HV.out).mono ?_
      rintro e w3 ⟨rfl,ho3⟩
      have HO3:=hide (o2 (o2 HO0.out HO2.out) ho3)
      clear p0 p1 p2 p3 p4 p5 ho3
      obtain ⟨bd,hbd⟩:=exq (Pg.body ⟨a,k,v,r,h,l⟩)
      have hbl:=body_len _ HV.out.fit.2.2
      have henc:Pg.enc ⟨a,k,v,r,h,l⟩=bigF 4 (sum bd).toNat++bd:=by rw [← hbd]; rfl
      rw [hbd] at hbl ⊢
      have HENC:=hide henc
      have hX:(str bd).size=508:=hbl
      obtain ⟨X,hXe⟩:=exq (str bd)
      rw [hXe] at hX ⊢
      have HX:=hide hXe
      have HX8:=hide hX
      have hXle:X.size≤508:=by omega
      have hsb:=sum_bd bd
      have HSUM:Hid (sum X.data.toList=sum bd):=by unfold Hid; rw [← hXe]; rfl
      clear hbd henc hX hXe hbl
      go_wp2_with fail
      refine (sum_any X w3 (by unfold maxLen; omega)).mono ?_
      rw [HSUM.out]
      obtain ⟨z,hz⟩:=exq (sum bd)
      rw [hz] at hsb ⊢
      rintro e w4 ⟨rfl,rfl⟩
      have hz0:=hsb.1
      have hz1:=hsb.2
      go_wp2_with fail
      refine (big_int z 4 w4 (by omega) (by omega) hz0 (by omega)).mono ?_
      rintro e w5 ⟨rfl,ho5⟩
      obtain ⟨Y,hYe⟩:=exq (str (bigF 4 z.toNat))
      have hYs:Y.size≤4:=by rw [← hYe,str_size,bigF_len]; omega
      have HFIN:Hid (Y++X=str (Pg.enc ⟨a,k,v,r,h,l⟩)):=by unfold Hid; rw [HENC.out,hz,← HX.out,← hYe,str_cat]
      rw [hYe]
      have HO5:=hide (o2 HO3.out ho5)
      clear ho5 hYe
      have hXY:¬ (9223372036854775807:Int) < (Y.size:Int)+(X.size:Int):=by omega
      go_wp2_with fail
      go_ret2
      rw [HOUT.out,← HFIN.out]
      exact ⟨rfl,HO5.out⟩
    · have HOUT:=hide (out_long HR.out hf)
      by_cases hh2:255 < h.size
      · have hh3:(255:Int) < (h.size:Int):=by omega
        clear hf hh2
        go_wp2_with fail
        go_ret2
        rw [HOUT.out]
        exact ⟨rfl,o2 HO0.out HO1.out⟩
      · have hh3:¬ (255:Int) < (h.size:Int):=by omega
        have hdl:decide (255 < l.length∨512 < 20+h.size+isz l)=true:=decide_eq_true (by
          have h1:¬ (h.size≤255∧l.length≤255∧20+h.size+isz l≤512):=hf
          omega)
        have HDL:=hide hdl
        clear hf hdl hh2
        go_wp2_with fail
        refine (tooLong_any _ a k v r h B cp ao l (HS.out.more (o2 HO0.out HO1.out)) hh).mono ?_
        rintro e w2 ⟨rfl,ho2⟩
        rw [HDL.out]
        have HO2:=hide (o2 (o2 HO0.out HO1.out) ho2)
        clear ho2 p0 p1 p2 p3 p4 p5
        go_wp2_with fail
        go_ret2
        rw [HOUT.out]
        exact ⟨rfl,HO2.out⟩
  · have hd:decide (0≤a∧1≤k∧k≤3∧0≤v∧v≤255∧0≤r∧r≤4294967295)=false:=decide_eq_false hr
    rw [hd]
    have HOUT:=hide (out_range hr)
    clear hd hr
    go_wp2_with fail
    go_ret2
    rw [HOUT.out]
    exact ⟨rfl,o2 HO0.out HO1.out⟩
structure Nm (w:World) (x:Nd) (B:Nat) (ao:Option Addr):Prop where
  strs:Strs w B ao x.items
  lvl:x.lv≤255
  rt:x.rt≤65535
  ok:∃ lo,x.Ok lo
  kok:x.Kok
theorem Nm.more {w w':World} {x:Nd} {B:Nat} {ao:Option Addr} (h:Nm w x B ao) (ho:Only (fun _=>False) w w'):Nm w' x B ao:=⟨h.strs.more ho,h.lvl,h.rt,h.ok,h.kok⟩
theorem hiB_is {h lo:En} (x:h=noE∨(h.ok=true∧lo.lt h)):HiIs (hiB h) h:=by
  unfold hiB
  by_cases k:h=noE
  · rw [if_pos k]; exact .inl ⟨rfl,k⟩
  · rw [if_neg k]
    rcases x with x | x
    · exact absurd x k
    · exact .inr ⟨rfl,x.1⟩
theorem Nd.items_leaf {x:Nd} (hv:x.lv=0):x.items=x.es.map En.enc:=by
  unfold Nd.items Nd.es
  rw [List.map_map]
  refine List.map_congr_left (fun k _=>?_)
  unfold itB
  rw [if_pos hv]
  rfl
theorem Nd.items_inner {x:Nd} (hv:0 < x.lv):x.items=x.ks.map (fun k=>k.1.encS k.2):=by
  unfold Nd.items
  refine List.map_congr_left (fun k _=>?_)
  unfold itB
  rw [if_neg (by omega)]
theorem Nm.few {w:World} {x:Nd} {B:Nat} {ao:Option Addr} (h:Nm w x B ao):x.ks.length≤82:=by
  obtain ⟨lo,ho⟩:=h.ok
  exact ho.few h.kok
theorem Nd.Ok.lfIs {x:Nd} {lo:En} (ho:x.Ok lo) (hv:x.lv=0):LfIs x.hi x.items x.es:=by
  refine ⟨Nd.items_leaf hv,ho.rise,?_,?_⟩
  · intro e he
    obtain ⟨k,hk,rfl⟩:=List.mem_map.1 he
    exact (ho.leaf hv k hk).1
  · intro e he
    obtain ⟨k,hk,rfl⟩:=List.mem_map.1 he
    exact (ho.leaf hv k hk).2.2.2
theorem Nd.Ok.inIs {x:Nd} {lo:En} (ho:x.Ok lo) (hk:x.Kok) (hv:0 < x.lv):InIs x.hi x.items x.ks :=
  ⟨Nd.items_inner hv,ho.rise,ho.first hv,fun k hkk=>⟨(ho.inner hv k hkk).1,(ho.inner hv k hkk).2.2⟩,hk hv⟩
theorem Nm.lp {w:World} {x:Nd} {B:Nat} {ao:Option Addr} (h:Nm w x B ao) (hv:x.lv=0):Lp w x.rt (hiB x.hi) x.hi B ao x.items x.es:=by
  obtain ⟨lo,ho⟩:=h.ok
  have hf:=h.few
  have hr:=h.rt
  exact ⟨h.strs,⟨by omega,by omega⟩,hiB_is ho.hiok,ho.lfIs hv,by rw [Nd.items_len]; omega⟩
theorem Nm.ip {w:World} {x:Nd} {B:Nat} {ao:Option Addr} (h:Nm w x B ao) (hv:0 < x.lv):Ip w x.lv x.rt (hiB x.hi) x.hi B ao x.items x.ks:=by
  obtain ⟨lo,ho⟩:=h.ok
  have hf:=h.few
  have hr:=h.rt
  have hl:=h.lvl
  exact ⟨h.strs,⟨by omega,by omega⟩,⟨by omega,by omega⟩,hiB_is ho.hiok,ho.inIs h.kok hv,by rw [Nd.items_len]; omega⟩
def RdR (w w':World) (x:Ending) (X:Nd):Prop:=∃ A C A2 n2 C2,x=.returned (.tuple #[cvv (.slice A X.ks.length C) (.slice A2 n2 C2) X.hi,.bool true])∧Ets w' w.heap.size (.slice A X.ks.length C) X.es∧(0 < X.lv→n2=X.ks.length∧Kts w' w.heap.size (.slice A2 n2 C2) (X.ks.map Prod.snd))∧Only (fun _=>False) w w'
theorem read_inner (w:World) (a v r:Int) (h:ByteArray) (hi:En) (B cp:Nat) (ao:Option Addr) (l:List ByteArray) (ks:List (En × Int)) (hP:Ip w v r h hi B ao l ks) :
    Calls Tryz.prog 33 #[.agg #[.int .i64 a,.int .i64 3,.int .i64 v,.int .i64 r,.string h,.slice ao l.length cp]] w fun x w'=>InR w w' x hi ks:=by
  have HX:=hide (lf_new w (.int .i64 a) (.int .i64 3) (.int .i64 v) (.int .i64 r) (.string h) (.slice ao l.length cp))
  have HR:=hide ((hP.more HX.out.2.2).read a cp)
  have hv:¬ v=0:=by have:=hP.level; omega
  clear hP
  go_enter Tryz.func33,Tryz.ntmps33
  go_upto_region 1 with fail
  obtain ⟨W0,hW0⟩:=exq ((w.alloc (.cells #[.int .i64 a,.int .i64 3,.int .i64 v,.int .i64 r,.string h,.slice ao l.length cp] 24)).alloc (.cells #[.slice none 0 0,.slice none 0 0,.string ⟨#[]⟩,.int .i64 0,.int .i64 0] 85))
  rw [hW0] at HX HR ⊢
  clear hW0
  obtain ⟨p0,p1,p2,p3,p4,p5,_⟩:=HX.out.1
  go_wp2_with fail
  refine HR.out.mono ?_
  rintro x w1 ⟨A,C,A2,C2,rfl,he,hk,ho⟩
  unfold cvv
  have HE:=hide he
  have HK:=hide hk
  have HC:=hide (HX.out.2.1.more ho)
  have HB:Hid (w.heap.size+1 < W0.heap.size):=HX.out.2.1.lt
  have HO1:=hide (o2 HX.out.2.2 ho)
  clear he hk ho p0 p1 p2 p3 p4 p5 HR
  obtain ⟨r0,r1,r2,r3,r4,f0,f1,f2,f3,f4,_⟩:=HC.out
  go_wp2_with fail
  refine bodyPost_ret (results_cv rfl rfl (HC.out.all _ _ hi)) rfl ?_
  have hfive:=Only.five w1 (w.heap.size+1) (.slice A ks.length C) (.slice A2 ks.length C2) (.string hi.key) (.int .i64 hi.page) (.int .i64 hi.slot)
  refine ⟨A,C,A2,C2,rfl,(HE.out.kept hfive (fun k hk=>?_)).base (by have:=HB.out; omega),(HK.out.kept hfive (fun k hk=>?_)).base (by have:=HB.out; omega),HO1.out.trans hfive (fun i hi e=>by omega)⟩
  · have:=(World.ownsRow.lt HE.out k hk).1
    have:=HB.out
    omega
  · have:=(World.ownsRow.lt HK.out k hk).1
    have:=HB.out
    omega
theorem read_nd (w:World) (a:Int) (X:Nd) (B cp:Nat) (ao:Option Addr) (hP:Nm w X B ao) :
    Calls Tryz.prog 33 #[.agg #[.int .i64 a,.int .i64 3,.int .i64 X.lv,.int .i64 X.rt,.string (hiB X.hi),.slice ao X.items.length cp]] w fun x w'=>RdR w w' x X:=by
  rcases Nat.eq_zero_or_pos X.lv with v | v
  · have h:=read_leaf w a X.rt (hiB X.hi) X.hi B cp ao X.items X.es (hP.lp v)
    rw [v]
    refine h.mono ?_
    rintro x w' ⟨A,C,rfl,he,ho⟩
    rw [Nd.es_len] at he ⊢
    exact ⟨A,C,none,0,0,rfl,he,fun z=>absurd v (by omega),ho⟩
  · have h:=read_inner w a X.lv X.rt (hiB X.hi) X.hi B cp ao X.items X.ks (hP.ip v)
    refine h.mono ?_
    rintro x w' ⟨A,C,A2,C2,rfl,he,hk,ho⟩
    exact ⟨A,C,A2,_,C2,rfl,he,fun _=>⟨rfl,hk⟩,ho⟩
def Nd.pg (x:Nd) (a:Int):Pg:=⟨a,3,x.lv,x.rt,hiB x.hi,x.items⟩
theorem Nm.out {w:World} {x:Nd} {B:Nat} {ao:Option Addr} (h:Nm w x B ao) {a:Int} (ha:0≤a):((x.pg a).out).2=0:=by
  obtain ⟨lo,ho⟩:=h.ok
  have hf:=h.few
  have hl:=h.lvl
  have hr:=h.rt
  have hs:=ho.size
  have hh:(hiB x.hi).size≤31:=hiB_size (by rcases ho.hiok with y | y; exact .inl y; exact .inr y.1)
  rw [out_ok]
  · unfold Pg.inRange Nd.pg
    simp only []
    omega
  · unfold Pg.fits Nd.pg
    unfold Nd.size at hs
    have:=Nd.items_len x
    unfold Pg.size
    simp only []
    omega
set_option maxHeartbeats 1600000 in
theorem check_nd (w:World) (a:Int) (X:Nd) (B cp:Nat) (ao:Option Addr) (hP:Nm w X B ao) (ha:0≤a∧a < 9223372036854775808) :
    Calls Tryz.prog 12 #[.agg #[.int .i64 a,.int .i64 3,.int .i64 X.lv,.int .i64 X.rt,.string (hiB X.hi),.slice ao X.items.length cp]] w fun x w'=>x=.returned (.int .i64 0)∧Only (fun _=>False) w w':=by
  have HP:=hide (Pag.new w (.int .i64 a) (.int .i64 3) (.int .i64 X.lv) (.int .i64 X.rt) (.string (hiB X.hi)) (.slice ao X.items.length cp))
  have HO:=hide (onlyA w (.cells #[.int .i64 a,.int .i64 3,.int .i64 X.lv,.int .i64 X.rt,.string (hiB X.hi),.slice ao X.items.length cp] 24))
  have HR:Hid (∀ W,Only (fun _=>False) w W→Calls Tryz.prog 33 #[.agg #[.int .i64 a,.int .i64 3,.int .i64 X.lv,.int .i64 X.rt,.string (hiB X.hi),.slice ao X.items.length cp]] W fun x w'=>RdR W w' x X):=fun W ho=>read_nd W a X B cp ao (hP.more ho)
  have HE:Hid (∀ W,Only (fun _=>False) w W→Calls Tryz.prog 34 #[.agg #[.int .i64 a,.int .i64 3,.int .i64 X.lv,.int .i64 X.rt,.string (hiB X.hi),.slice ao X.items.length cp]] W fun x w'=>(∃ s,x=.returned (.tuple #[.string s,.int .i64 0]))∧Only (fun _=>False) W w'):=fun W ho=>by
    have h:=pencode_any W a 3 X.lv X.rt (hiB X.hi) B cp ao X.items (hP.strs.more ho) (by obtain ⟨lo,hk⟩:=hP.ok; have:=hiB_size (h:=X.hi) (by rcases hk.hiok with y | y; exact .inl y; exact .inr y.1); omega) ha.2
    refine h.mono ?_
    rintro x w' ⟨rfl,ho'⟩
    exact ⟨⟨_,by rw [show (Pg.out ⟨a,3,X.lv,X.rt,hiB X.hi,X.items⟩).2=0 from hP.out ha.1]⟩,ho'⟩
  clear hP ha
  obtain ⟨L,hL⟩:=exq ((X.lv:Int))
  obtain ⟨R,hR⟩:=exq ((X.rt:Int))
  obtain ⟨h,hh⟩:=exq (hiB X.hi)
  obtain ⟨n,hn⟩:=exq (X.items.length)
  rw [hL,hR,hh,hn] at HP HO HR HE ⊢
  clear hL hR hh hn
  go_enter Tryz.func12,Tryz.ntmps12
  go_upto_region 1 with fail
  obtain ⟨W0,hW0⟩:=exq (w.alloc (.cells #[.int .i64 a,.int .i64 3,.int .i64 L,.int .i64 R,.string h,.slice ao n cp] 24))
  rw [hW0] at HP HO ⊢
  clear hW0
  obtain ⟨p0,p1,p2,p3,p4,p5,_⟩:=HP.out
  go_wp2_with fail
  refine (HR.out _ HO.out).mono ?_
  rintro x w1 ⟨A,C,A2,n2,C2,rfl,he,hk,ho⟩
  unfold cvv
  have HP1:=hide (HP.out.more ho)
  have HO1:=hide (o2 HO.out ho)
  clear he hk ho p0 p1 p2 p3 p4 p5 HP HO HR
  go_upto_region 2 with fail
  have HA:=hide (onlyA w1 (.cells #[.slice A X.ks.length C,.slice A2 n2 C2,.string X.hi.key,.int .i64 X.hi.page,.int .i64 X.hi.slot] 85))
  obtain ⟨w2,hw2⟩:=exq (w1.alloc (.cells #[.slice A X.ks.length C,.slice A2 n2 C2,.string X.hi.key,.int .i64 X.hi.page,.int .i64 X.hi.slot] 85))
  rw [hw2] at HA ⊢
  clear hw2
  have HP2:=hide (HP1.out.more HA.out)
  have HO2:=hide (o2 HO1.out HA.out)
  clear HA HP1 HO1
  obtain ⟨p0,p1,p2,p3,p4,p5,_⟩:=HP2.out
  go_wp2_with fail
  refine (HE.out _ HO2.out).mono ?_
  rintro x w3 ⟨⟨s,rfl⟩,ho⟩
  have HO3:=hide (o2 HO2.out ho)
  clear ho
  go_wp2_with fail
  go_ret
  exact ⟨rfl,HO3.out⟩
set_option maxHeartbeats 1600000 in
theorem beyond_nd (w:World) (a:Int) (X:Nd) (e:En) (B cp:Nat) (ao:Option Addr) (hP:Nm w X B ao) :
    Calls Tryz.prog 70 #[.agg #[.int .i64 a,.int .i64 3,.int .i64 X.lv,.int .i64 X.rt,.string (hiB X.hi),.slice ao X.items.length cp],e.agg] w fun x w'=>x=.returned (byV X.hi e)∧Only (fun _=>False) w w':=by
  have HX:=hide (pe_new w (.int .i64 a) (.int .i64 3) (.int .i64 X.lv) (.int .i64 X.rt) (.string (hiB X.hi)) (.slice ao X.items.length cp) e)
  have HR:=hide (read_nd _ a X B cp ao (hP.more HX.out.2.2))
  have HIE:Hid (∀ W,Calls Tryz.prog 60 #[.agg #[.string e.key,.int .i64 e.page,.int .i64 e.slot]] W fun x w'=>x=.returned (.bool e.ok)∧Only (fun _=>False) W w'):=fun W=>isEntry_any e W
  have HBY:Hid (∀ W (A1 A2:Option Addr) (n1 n2 C1 C2:Nat),Calls Tryz.prog 83 #[.agg #[.slice A1 n1 C1,.slice A2 n2 C2,.string X.hi.key,.int .i64 X.hi.page,.int .i64 X.hi.slot],.agg #[.string e.key,.int .i64 e.page,.int .i64 e.slot]] W fun x w'=>x=.returned (.bool (byd X.hi e))∧Only (fun _=>False) W w'):=fun W A1 A2 n1 n2 C1 C2=>isBeyond_any W A1 A2 n1 n2 C1 C2 X.hi e
  clear hP
  unfold byV En.agg
  obtain ⟨O,hO⟩:=exq (e.ok)
  obtain ⟨Y,hY⟩:=exq (byd X.hi e)
  rw [hO] at HIE ⊢
  rw [hY] at HBY ⊢
  clear hO hY
  obtain ⟨L,hL⟩:=exq ((X.lv:Int))
  obtain ⟨R,hR⟩:=exq ((X.rt:Int))
  obtain ⟨h,hh⟩:=exq (hiB X.hi)
  obtain ⟨n,hn⟩:=exq (X.items.length)
  rw [hL,hR,hh,hn] at HX HR ⊢
  clear hL hR hh hn
  go_enter Tryz.func70,Tryz.ntmps70
  go_upto_region 1 with fail
  obtain ⟨W0,hW0⟩:=exq ((w.alloc (.cells #[.int .i64 a,.int .i64 3,.int .i64 L,.int .i64 R,.string h,.slice ao n cp] 24)).alloc (.cells #[.string e.key,.int .i64 e.page,.int .i64 e.slot] 41))
  rw [hW0] at HX HR ⊢
  clear hW0
  obtain ⟨p0,p1,p2,p3,p4,p5,_⟩:=HX.out.1
  go_wp2_with fail
  refine HR.out.mono ?_
  rintro x w1 ⟨A,C,A2,n2,C2,rfl,he,hk,ho⟩
  unfold cvv
  have HV1:=hide (HX.out.2.1.more ho)
  have HO1:=hide (o2 HX.out.2.2 ho)
  clear he hk ho p0 p1 p2 p3 p4 p5 HR HX
  go_upto_region 2 with fail
  have HA:=hide (onlyA w1 (.cells #[.slice A X.ks.length C,.slice A2 n2 C2,.string X.hi.key,.int .i64 X.hi.page,.int .i64 X.hi.slot] 85))
  have HC:=hide (Cv.new w1 (.slice A X.ks.length C) (.slice A2 n2 C2) X.hi)
  obtain ⟨cb,hcb⟩:=exq (w1.heap.size)
  rw [hcb] at HC ⊢
  clear hcb
  obtain ⟨w2,hw2⟩:=exq (w1.alloc (.cells #[.slice A X.ks.length C,.slice A2 n2 C2,.string X.hi.key,.int .i64 X.hi.page,.int .i64 X.hi.slot] 85))
  rw [hw2] at HA HC ⊢
  clear hw2
  have HV2:=hide (HV1.out.more HA.out)
  have HO2:=hide (o2 HO1.out HA.out)
  clear HA HV1 HO1
  obtain ⟨d0,d1,d2,_⟩:=HV2.out
  go_wp2_with fail
  refine (HIE.out _).mono ?_
  rintro x w3 ⟨rfl,ho⟩
  have HV3:=hide (HV2.out.more ho)
  have HC3:=hide (HC.out.more ho)
  have HO3:=hide (o2 HO2.out ho)
  clear ho d0 d1 d2 HV2 HC HO2
  cases O with
  | false=>
    go_wp2_with fail
    go_ret2
    exact ⟨rfl,HO3.out⟩
  | true=>
    obtain ⟨d0,d1,d2,_⟩:=HV3.out
    obtain ⟨q0,q1,q2,q3,q4,_⟩:=HC3.out
    go_wp2_with fail
    refine (HBY.out _ _ _ _ _ _ _).mono ?_
    rintro x w4 ⟨rfl,ho⟩
    have HO4:=hide (o2 HO3.out ho)
    clear ho
    go_wp2_with fail
    go_ret2
    exact ⟨rfl,HO4.out⟩
end Go.Proofs.YtipkeeobmihogaaGreat
