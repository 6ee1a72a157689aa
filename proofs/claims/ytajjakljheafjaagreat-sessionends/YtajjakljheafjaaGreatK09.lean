/- Parts. -/
import Derived.Test.YtajjakljheafjaaGreatK04
import Derived.Deep.RegionWith
import Derived.Deep.DeepCutAuto
import Derived.Lib.Repeat
set_option maxRecDepth 100000
namespace Go.Proofs.YtajjakljheafjaaGreat
open Go.RowKit
structure Lay (W0 w:World) (v:Value) (l:List UInt8):Prop where
  row:∃ row,Row w W0.heap.size v row l
  only:Only (fun k=>W0.heap.size≤k) W0 w
theorem Lay.more {W0 w w':World} {v:Value} {l:List UInt8} (h:Lay W0 w v l) (ho:Only (fun _=>False) w w'):Lay W0 w' v l:=by
  obtain ⟨row,hr⟩:=h.row
  exact ⟨⟨row,hr.kept ho (fun _ _ h=>h)⟩,h.only.trans ho (fun _ _ h=>h.elim)⟩
theorem Lay.text {W0 w:World} {v:Value} {l:List UInt8} (h:Lay W0 w v l) (s:ByteArray) (hn:l.length+s.size≤158329674399744) :
    ∃ v' w',(Builtin.append_ #[112,9] 112 #[v,.string s]).run Tryz.prog w=.ok v' w'∧Lay W0 w' v' (l++bl s):=by
  obtain ⟨i0,hi,hz0,hz1,hz2⟩:=info_parts Tryz.infoByte
  obtain ⟨row,hr⟩:=h.row
  obtain ⟨v',w',hrun,h2,h3,_⟩:=append_string (P:=Tryz.prog) w W0.heap.size 112 9 112 5 i0 Tryz.underlying112 Tryz.underlying9 hi hz0 hz1 hz2 v l.length (cells l) hr.own s hn h.only.size
  refine ⟨v',w',hrun,⟨⟨v'.ownBlock,?_,rfl⟩,h.only.trans (Only.grown (S:=fun k=>W0.heap.size≤k) h3 (fun k hk=>(World.ownsRow.lt hr.own k hk).1)) (fun _ _ h=>h)⟩⟩
  have e:l.length+s.size=(l++bl s).length:=by simp
  rw [cells_append,← e]
  exact h2
theorem Lay.two {W0 w:World} {v:Value} {l:List UInt8} (h:Lay W0 w v l) (x y:Int) (hx0:0≤x) (hx1:x < 256) (hy0:0≤y) (hy1:y < 256) (hn:l.length+2≤158329674399744) :
    ∃ v' w',(Builtin.append_ #[112,112] 112 #[v,.slice (some ⟨w.heap.size,0,none⟩) 2 2]).run Tryz.prog (w.alloc (.cells #[.int .u8 x,.int .u8 y] 5))=.ok v' w'∧Lay W0 w' v' (l++[u8 x,u8 y]):=by
  obtain ⟨i0,hi,hz0,hz1,hz2⟩:=info_parts Tryz.infoByte
  have h':=h.more (onlyA w (.cells #[.int .u8 x,.int .u8 y] 5))
  obtain ⟨row,hr⟩:=h'.row
  have ex:=u8_to x hx0 hx1
  have ey:=u8_to y hy0 hy1
  obtain ⟨v',w',hrun,h2,h3,_⟩:=append_bytes (P:=Tryz.prog) _ W0.heap.size 112 112 5 i0 Tryz.underlying112 hi hz0 hz1 hz2 v l.length (cells l) hr.own ⟨w.heap.size,0,none⟩ 2 2 (cells [u8 x,u8 y]) rfl
    (fun j u hu=>by
      match j,hu with
      | 0,hu=>simp [cells] at hu; rw [← hu,add_at,ex]; simp
      | 1,hu=>simp [cells] at hu; rw [← hu,add_at,ey]; simp)
    (by intro u hu; simp [cells] at hu; rcases hu with rfl | rfl <;> rfl) hn (by decide) h'.only.size
  refine ⟨v',w',hrun,⟨⟨v'.ownBlock,?_,rfl⟩,h'.only.trans (Only.grown (S:=fun k=>W0.heap.size≤k) h3 (fun k hk=>(World.ownsRow.lt hr.own k hk).1)) (fun _ _ h=>h)⟩⟩
  have e:l.length+2=(l++[u8 x,u8 y]).length:=by simp
  rw [cells_append,← e]
  exact h2
theorem only_below {w w':World} (hb:Below w.heap.size w w'):Only (fun _=>False) w w':=⟨hb.os,hb.tape,hb.output,hb.size,fun k hk _=>hb.block k hk⟩
theorem big_int (n:Int) (k:Nat) (w:World) (hk:1≤k) (hk8:k≤8) (h0:0≤n) (hn:n < 9223372036854775808) :
    Calls Tryz.prog 81 #[.int .i64 n,.int .i64 k] w fun e w'=>e=.returned (.string (str (bigF k n.toNat)))∧Only (fun _=>False) w w':=by
  obtain ⟨m,rfl⟩:=Int.eq_ofNat_of_zero_le h0
  rw [Int.toNat_natCast]
  exact big_any m k w hk hk8 (by omega)
theorem big_nat (n k:Nat) (w:World) (hk:1≤k) (hk8:k≤8) (hn:n < 9223372036854775808) :
    Calls Tryz.prog 81 #[.int .i64 n,.int .i64 k] w fun e w'=>e=.returned (.string (str (bigF k n)))∧Only (fun _=>False) w w':=big_any n k w hk hk8 hn
theorem cat_eq (a:List UInt8) (s:ByteArray):(⟨a.toArray⟩:ByteArray)++s=⟨(a++s.data.toList).toArray⟩:=by
  obtain ⟨⟨l⟩⟩:=s
  apply ByteArray.ext
  simp
theorem str_cat (a b:List UInt8):str a++str b=str (a++b):=cat_eq a ⟨b.toArray⟩
theorem rep_zero (c:Nat):Lib.repeatL (⟨#[0]⟩:ByteArray).data.toList c=List.replicate c 0:=by
  induction c with
  | zero=>rfl
  | succ c ih=>rw [Lib.repeatL,ih,List.replicate_succ]; rfl
theorem lay_new {W0 w1:World} {n:Nat} {v:Value} (hz:W0.heap.size=n) (hw:w1.ownsRow n 5 1 v 0 []) (hg:W0.grownBy w1 none):Lay W0 w1 v []:=by
  subst hz
  exact ⟨⟨v.ownBlock,hw,rfl⟩,Only.grown hg (fun k hk=>by cases hk)⟩
theorem size_conv (wr:World) (a k v r:Int) (h:ByteArray) (B cp:Nat) (ao:Option Addr) (l:List ByteArray) (hS:Strs wr B ao l) (hh:h.size≤255) (hl:l.length≤255) (u:Value) (X:ByteArray)
    (hcv:∀ W,Only (fun _=>False) wr W→(convert 112 9 u).run Tryz.prog W=.ok (.string X) W) (N:Nat) (hN:20+h.size+isz l=N) (W:World) (hW:Only (fun _=>False) wr W) :
    Calls Tryz.prog 150 #[.agg #[.int .i64 a,.int .i64 k,.int .i64 v,.int .i64 r,.string h,.slice ao l.length cp]] W fun e w'=>e=.returned (.int .i64 (N:Int))∧(convert 112 9 u).run Tryz.prog w'=.ok (.string X) w'∧Hid (Only (fun _=>False) wr w'):=by
  have h1:=psize_any W a k v r h B cp ao l (hS.more hW) (by omega)
  have h2:wrap64 (20+h.size+isz l)=(N:Int):=by
    rw [w64_few hS.size (by omega) hl]
    omega
  rw [h2] at h1
  exact h1.mono (fun e w' hx=>⟨hx.1,hcv _ (o2 hW hx.2),o2 hW hx.2⟩)
theorem rep_conv (wr:World) (u:Value) (X:ByteArray) (hcv:∀ W,Only (fun _=>False) wr W→(convert 112 9 u).run Tryz.prog W=.ok (.string X) W) (c:Nat) (hc:c≤512) (W:World) (hW:Only (fun _=>False) wr W) :
    Calls Tryz.prog 39 #[.string ⟨#[0]⟩,.int .i64 (c:Int)] W fun e w'=>e=.returned (.string (str (List.replicate c 0)))∧(convert 112 9 u).run Tryz.prog w'=.ok (.string X) w'∧Hid (Only (fun _=>False) wr w'):=by
  have e1:(⟨#[0]⟩:ByteArray).size=1:=rfl
  have h1:=Tryz.strings_Repeat ⟨#[0]⟩ c W (by omega) (by rw [e1]; omega)
  refine Calls.mono h1 ?_
  rintro e w' ⟨rfl,hb⟩
  refine ⟨?_,hcv _ (o2 hW (only_below hb)),o2 hW (only_below hb)⟩
  rw [rep_zero]
  rfl
set_option maxHeartbeats 1600000 in
theorem body_any (w:World) (a k v r:Int) (h:ByteArray) (B cp:Nat) (ao:Option Addr) (l:List ByteArray) (hS:Strs w B ao l) (hv:Pg.valid ⟨a,k,v,r,h,l⟩) :
    Calls Tryz.prog 138 #[.agg #[.int .i64 a,.int .i64 k,.int .i64 v,.int .i64 r,.string h,.slice ao l.length cp]] w fun e w'=>e=.returned (.string (str (Pg.body ⟨a,k,v,r,h,l⟩)))∧Only (fun _=>False) w w':=by
  obtain ⟨i0,hi,hz0,hz1,hz2⟩:=info_parts Tryz.infoByte
  have hlen:=hS.len
  have HV:=hide hv
  obtain ⟨⟨r0,r1,r2,r3,r4,r5,r6⟩,⟨f0,f1,f2⟩,hl⟩:=hv
  simp only at r0 r1 r2 r3 r4 r5 r6 f0 f1 f2 hl
  have HF2:=hide f2
  clear f2
  have HS:=hide hS
  clear hS
  obtain ⟨W0,hW0⟩:=exq (w.alloc (.cells #[.int .i64 a,.int .i64 k,.int .i64 v,.int .i64 r,.string h,.slice ao l.length cp] 37))
  have HP:=hide (Pag.new w (.int .i64 a) (.int .i64 k) (.int .i64 v) (.int .i64 r) (.string h) (.slice ao l.length cp))
  have HO0:=hide (onlyA w (.cells #[.int .i64 a,.int .i64 k,.int .i64 v,.int .i64 r,.string h,.slice ao l.length cp] 37))
  rw [hW0] at HP HO0
  have hz:W0.heap.size=w.heap.size+1:=by rw [← hW0]; simp
  have HZ:=hide hz
  have HW0:=hide hW0
  clear hW0 hz
  have hk8:k % 256=k:=by omega
  have hv8:v % 256=v:=by omega
  go_enter Tryz.func138,Tryz.ntmps138
  go_wp2_with (
    at_make
    go_must (refine wpList_make_own _ rfl _ _ 112 rfl (w.heap.size+1) 5 i0 (.int .u8 0) 1 Tryz.underlying112 hi hz0 hz1 .i64 .i64 _ 508 rfl rfl (by omega) (by rw [hz2]; omega) (by unfold maxLen; omega) (by simp) ?_)
    intro w1 hw1 hg1
    rw [HW0.out] at hg1 hw1
    rw [HZ.out] at hw1
    have HL1:=hide (lay_new HZ.out hw1 hg1)
    obtain ⟨p0,p1,p2,p3,p4,p5,g0,g1,g2,g3,g4,g5,gl⟩:=HP.out.kept HL1.out.only (by have:=HZ.out; omega)
    clear hw1 hg1)
  have HPK:Hid (∀ wx,Only (fun k=>W0.heap.size≤k) W0 wx→Pag wx w.heap.size (.int .i64 a) (.int .i64 k) (.int .i64 v) (.int .i64 r) (.string h) (.slice ao l.length cp)):=fun wx hx=>HP.out.kept hx (by have:=HZ.out; omega)
  refine (big_int a 8 w1 (by omega) (by omega) r0 hl).mono ?_
  rintro e w2 ⟨rfl,ho2⟩
  obtain ⟨v3,w3,r3',l3⟩:=(HL1.out.more ho2).text (str (bigF 8 a.toNat)) (by simp [str_size,bigF_len])
  obtain ⟨v4,w4,r4',l4⟩:=l3.two k v (by omega) (by omega) r3 (by omega) (by simp [bl_str,bigF_len])
  have R3:=hide r3'
  have R4:=hide r4'
  have L4:=hide l4
  clear p0 p1 p2 p3 p4 p5 g0 g1 g2 g3 g4 g5 gl
  have x1:=(HPK.out _ l3.only).c1
  have x2:=(HPK.out _ l3.only).c2
  have x3:=(HPK.out _ l4.only).c3
  clear r3' r4' l3 l4 ho2
  go_wp2_with (first
    | (at_builtin; refine Lib.wpList_append_run _ rfl (.tmp 7) (.tmp 10) _ _ rfl _ _ rfl rfl _ _ R3.out ?_)
    | (at_builtin; refine Lib.wpList_append_run _ rfl (.tmp 12) (.tmp 19) _ _ rfl _ _ rfl rfl _ _ R4.out ?_))
  refine (big_int r 4 w4 (by omega) (by omega) r5 (by omega)).mono ?_
  rintro e w5 ⟨rfl,ho5⟩
  obtain ⟨v6,w6,r6',l6⟩:=(L4.out.more ho5).text (str (bigF 4 r.toNat)) (by simp [str_size,bl_str,bigF_len])
  obtain ⟨v7,w7,r7',l7⟩:=l6.two (l.length:Int) (h.size:Int) (by omega) (by omega) (by omega) (by omega) (by simp [bl_str,bigF_len])
  obtain ⟨v8,w8,r8',l8⟩:=l7.text h (by simp [bl_str,bigF_len]; omega)
  have R6:=hide r6'
  have R7:=hide r7'
  have R8:=hide r8'
  have L8:=hide l8
  clear x1 x2 x3
  have y5:=(HPK.out _ l6.only).c5
  have y4:=(HPK.out _ l6.only).c4
  have z4:=(HPK.out _ l7.only).c4
  have u5:=(HPK.out _ l8.only).c5
  have hm1:(l.length:Int) % 256=(l.length:Int):=by omega
  have hm2:(h.size:Int) % 256=(h.size:Int):=by omega
  clear r6' r7' r8' l6 l7 l8 ho5
  go_wp2_with (first
    | (at_builtin; refine Lib.wpList_append_run _ rfl (.tmp 21) (.tmp 24) _ _ rfl _ _ rfl rfl _ _ R6.out ?_)
    | (at_builtin; refine Lib.wpList_append_run _ rfl (.tmp 26) (.tmp 35) _ _ rfl _ _ rfl rfl _ _ R7.out ?_)
    | (at_builtin; refine Lib.wpList_append_run _ rfl (.tmp 37) (.tmp 39) _ _ rfl _ _ rfl rfl _ _ R8.out ?_))
  obtain ⟨hd,hhd⟩:∃ hd,hd=Pg.head ⟨a,k,v,r,h,l⟩++bl h:=⟨_,rfl⟩
  have HL8:Hid (Lay W0 w8 v8 (hd++itemsL (l.take 0))):=by
    have e:=L8.out
    have e2:([]++bl (str (bigF 8 a.toNat))++[u8 k,u8 v]++bl (str (bigF 4 r.toNat))++[u8 (l.length:Int),u8 (h.size:Int)]++bl h:List UInt8)=hd++itemsL (l.take 0):=by
      rw [hhd]
      simp [Pg.head,bl_str,u8,itemsL]
    rw [e2] at e
    exact e
  have HHD:=hide hhd
  have HHL:Hid (hd.length+isz l≤508):=by
    unfold Hid
    rw [hhd,List.length_append,head_len,bl_len]
    have:=HF2.out
    simp only [Pg.size] at this
    omega
  clear hhd L8 R3 R4 R6 R7 R8 HL1 L4
  go_loopw [3,44] (fun x y wr=>∃ (j:Nat),j≤l.length∧y=.int .i64 (j:Int)∧Hid (Lay W0 wr x (hd++itemsL (l.take j)))) (fun _ y _=>l.length - (intOf y).toNat)
  case atStart=>exact ⟨0,by omega,rfl,HL8⟩
  case round=>
    obtain ⟨j,hj,rfl,HL⟩:=hrel
    by_cases hlt:j < l.length
    · have hB:=HS.out.lt (by omega)
      obtain ⟨o1,e1,c1⟩:=((HS.out.more HO0.out).kept HL.out.only (fun _=>by have:=HZ.out; omega)).at_ (by omega)
      have k1:=c1 j hlt
      have hz:=HS.out.size l[j] (List.getElem_mem hlt)
      have hj1:(j:Int) < (l.length:Int):=by omega
      have HT:Hid (itemsL (l.take (j+1))=itemsL (l.take j)++(bigF 2 l[j].size++bl l[j])):=itemsL_snoc l j hlt
      have HB2:Hid (hd.length+isz (l.take j)+2+l[j].size≤508):=by
        have h1:=HHL.out
        have h2:=isz_snoc l j hlt
        have h3:isz (l.take (j+1))≤isz l:=by
          conv=>rhs; rw [← List.take_append_drop (j+1) l,isz_app]
          omega
        unfold Hid
        omega
      obtain ⟨s,hs⟩:=exq (l[j])
      rw [hs] at k1 hz HT HB2
      clear c1 hs hB
      subst e1
      go_wp2_with fail
      refine (big_nat s.size 2 wr (by omega) (by omega) (by omega)).mono ?_
      rintro e w9 ⟨rfl,ho9⟩
      obtain ⟨v10,w10,r10,l10⟩:=(HL.out.more ho9).text (str (bigF 2 s.size)) (by have:=HB2.out; simp only [List.length_append,itemsL_len,str_size,bigF_len]; omega)
      obtain ⟨v11,w11,r11,l11⟩:=l10.text s (by have:=HB2.out; simp only [List.length_append,itemsL_len,bl_str,bigF_len]; omega)
      have R10:=hide r10
      have R11:=hide r11
      have HL11:Hid (Lay W0 w11 v11 (hd++itemsL (l.take (j+1)))):=by
        unfold Hid
        rw [HT.out]
        have e:=l11
        simpa [bl_str] using e
      clear r10 r11 l10 l11 ho9
      go_wp2_with (first
        | (at_builtin; refine Lib.wpList_append_run _ rfl (.tmp 48) (.tmp 51) _ _ rfl _ _ rfl rfl _ _ R10.out ?_)
        | (at_builtin; refine Lib.wpList_append_run _ rfl (.tmp 53) (.tmp 54) _ _ rfl _ _ rfl rfl _ _ R11.out ?_))
      go_roundw
      case rel=>exact ⟨j+1,by omega,by go_num,HL11⟩
      case measure=>simp [intOf]; omega
    · have ej:l.take j=l:=List.take_of_length_le (by omega)
      rw [ej] at HL
      obtain ⟨row,hrow⟩:=HL.out.row
      have HCV:Hid (∀ W,Only (fun _=>False) wr W→(convert 112 9 u3).run Tryz.prog W=.ok (.string (str (hd++itemsL l))) W):=fun W hW=>bytes_back W _ _ _ _ (hrow.kept hW (fun _ _ h=>h))
      obtain ⟨N,hN⟩:=exq (20+h.size+isz l)
      have hN5:N≤512:=by have:=HF2.out; simp only [Pg.size] at this; omega
      obtain ⟨c,hcN⟩:∃ c:Nat,512 - N=c:=⟨_,rfl⟩
      have hsub:(512:Int) - (N:Int)=(c:Int):=by omega
      have hB:0 < l.length→B < w.heap.size:=HS.out.lt
      have hSW:Strs wr B (ao) l:=(HS.out.more HO0.out).kept HL.out.only (fun h0=>by have:=hB h0; have:=HZ.out; omega)
      have HSIZE:=hide (size_conv wr a k v r h B cp ao l hSW f0 f1 u3 _ HCV.out N hN)
      have HREP:=hide (rep_conv wr u3 _ HCV.out c (by omega))
      obtain ⟨X,hX⟩:=exq (str (hd++itemsL l))
      obtain ⟨Y,hY⟩:=exq (str (List.replicate c 0))
      rw [hX] at HCV HSIZE HREP
      rw [hY] at HREP
      have hXs:X.size≤508:=by rw [← hX,str_size,List.length_append,itemsL_len]; exact HHL.out
      have hYs:Y.size≤512:=by rw [← hY,str_size,List.length_replicate]; omega
      have hXY:¬ (9223372036854775807:Int) < (X.size:Int)+(Y.size:Int):=by omega
      have hcv:=HCV.out _ (Only.drew _ wr)
      have hwc:IntKind.i64.wrap (c:Int)=(c:Int):=wraps_i64 _ (by omega) (by omega)
      obtain ⟨p0,p1,p2,p3,p4,p5,_⟩:=HPK.out _ HL.out.only
      have HE:Hid (X++Y=str (Pg.body ⟨a,k,v,r,h,l⟩)):=by
        unfold Hid
        rw [← hX,← hY,str_cat,HHD.out,← hcN,← hN]
        simp [Pg.body,Pg.front,Pg.size]
      have HOW:Hid (Only (fun _=>False) w wr):=HO0.out.trans HL.out.only (fun i hi e=>by have:=HZ.out; omega)
      clear hX hY hrow hN hcN hSW hB ej y4 y5 z4 hm1 hm2
      go_wp2_with fail
      go_region_with (first
        | (go_at_call 150; refine (HSIZE.out _ (Only.drew _ _)).mono ?_; rintro e w9 ⟨rfl,hcv9,HX9⟩)
        | (go_at_call 39; refine (HREP.out _ HX9.out).mono ?_; rintro e w10 ⟨rfl,hcv10,HX10⟩))
      all_goals go_wp2_with fail
      all_goals go_ret
      all_goals exact ⟨by rw [← HE.out]; rfl,o2 HOW.out HX10.out⟩
end Go.Proofs.YtajjakljheafjaaGreat
