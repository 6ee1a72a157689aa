/- Parts. -/
import Derived.Test.YtipkeeobmihogaaGreatK17
import Derived.Deep.RegionHeld3
set_option maxRecDepth 100000
namespace Go.Proofs.YtipkeeobmihogaaGreat
open Go.RowKit
theorem zeros_at (n:Nat) (hn:n≤1000):∃ (O:Obj),(∀ W:World,(Instr.makeSlice 142 (.int .i64 (n:Int)) (.int .i64 (n:Int))).run Tryz.prog W=.ok (.slice (some ⟨W.heap.size,0,none⟩) n n) (W.alloc O)) ∧
    (∀ (W:World) (g:Nat) (X:World),g=W.heap.size→Only (fun _=>False) (W.alloc O) X→(convert 142 9 (.slice (some ⟨g,0,none⟩) n n)).run Tryz.prog X=.ok (.string (str (List.replicate n 0))) X):=by
  obtain ⟨i0,hi,hz0,hz1,hz2⟩:=info_parts Tryz.infoByte
  refine ⟨.cells (madeCells (Value.int .u8 0).cells ((n:Int).toNat * i0.size)) 5,fun W=>?_,fun W g X hg hX=>?_⟩
  · have h:=run_make (P:=Tryz.prog) W 142 5 i0 (.int .u8 0) Tryz.underlying142 hi hz0 .i64 .i64 (n:Int) (n:Int) (by omega) (Int.le_refl _) (by rw [hz2]; omega) (by omega)
    simpa using h
  · subst hg
    obtain ⟨w',hmk,hown,hgr⟩:=run_make_full (P:=Tryz.prog) W W.heap.size 142 5 i0 (.int .u8 0) 1 Tryz.underlying142 hi hz0 hz1 .i64 .i64 n (by rw [hz2]; omega) (by unfold maxLen; omega) (Nat.le_refl _)
    have h:=run_make (P:=Tryz.prog) W 142 5 i0 (.int .u8 0) Tryz.underlying142 hi hz0 .i64 .i64 (n:Int) (n:Int) (by omega) (Int.le_refl _) (by rw [hz2]; omega) (by omega)
    have e:w'=W.alloc (.cells (madeCells (Value.int .u8 0).cells ((n:Int).toNat * i0.size)) 5):=by
      rw [hmk] at h
      simp at h
      exact h
    subst e
    have e2:(madeCells (Value.int .u8 0).cells (n * 1)).toList=cells (List.replicate n 0):=by
      have:(Value.int IntKind.u8 0).cells=#[.int .u8 0]:=rfl
      rw [this,toList_madeCells_one]; simp [cells]
    rw [e2] at hown
    have hrow:Row (W.alloc (.cells (madeCells (Value.int .u8 0).cells ((n:Int).toNat * i0.size)) 5)) W.heap.size (.slice (some ⟨W.heap.size,0,none⟩) n n) (some W.heap.size) (List.replicate n 0):=by
      refine ⟨?_,rfl⟩
      rw [List.length_replicate]
      exact hown
    exact bytes_back X _ _ _ _ (hrow.kept hX (fun _ _ h=>h))
theorem refBig_int (n:Int) (k:Nat) (w:World) (hk:1≤k) (hk8:k≤8) (h0:0≤n) (hn:n < 9223372036854775808) :
    Calls Tryz.prog 117 #[.int .i64 n,.int .i64 k] w fun e w'=>e=.returned (.string (str (bigF k n.toNat)))∧Only (fun _=>False) w w':=by
  obtain ⟨m,rfl⟩:=Int.eq_ofNat_of_zero_le h0
  rw [Int.toNat_natCast]
  exact refBig_any m k w hk hk8 (by omega)
theorem big1 (n:Nat) (h:n < 256):bigF 1 n=[UInt8.ofNat n]:=by
  show bigF 0 (n / 256)++[UInt8.ofNat (n % 256)]=_
  rw [Nat.mod_eq_of_lt h]
  rfl
theorem str_app (A:List UInt8) (h:ByteArray):str A++h=str (A++bl h):=by rw [← str_cat,str_bl]
theorem head_cat (a k v r:Int) (h:ByteArray) (l:List ByteArray) (hk:k.toNat < 256) (hv:v.toNat < 256) (hh:h.size≤255) (hl:l.length≤255) :
    str (bigF 8 a.toNat)++str (bigF 1 k.toNat)++str (bigF 1 v.toNat)++str (bigF 4 r.toNat)++str (bigF 1 (l.length:Int).toNat)++str (bigF 1 (h.size:Int).toNat)++h=str (Pg.head ⟨a,k,v,r,h,l⟩++bl h++itemsL (l.take 0)):=by
  rw [Int.toNat_natCast,Int.toNat_natCast,big1 _ hk,big1 _ hv,big1 l.length (by omega),big1 h.size (by omega)]
  simp only [bl_str,str_app,Pg.head,u8,List.take_zero,itemsL_nil,List.append_nil,List.append_assoc,List.cons_append,List.nil_append]
theorem str_len {l:List UInt8} {Y:ByteArray} (h:str l=Y):Y.size=l.length:=by rw [← h]; rfl
theorem rb (W0:World) (n:Int) (k:Nat) (Y:ByteArray) (hk:1≤k) (hk8:k≤8) (h0:0≤n) (hn:n < 9223372036854775808) (hY:str (bigF k n.toNat)=Y) (b:Nat) (v0 v1 v2 v3 v4 v5:Value) (hP:Pag W0 b v0 v1 v2 v3 v4 v5) (W:World) (hW:Hid (Only (fun _=>False) W0 W)) :
    Calls Tryz.prog 117 #[.int .i64 n,.int .i64 (k:Int)] W fun e w'=>e=.returned (.string Y)∧Hid (Only (fun _=>False) W0 w')∧w'.cell? ⟨b,0,none⟩=some v0∧w'.cell? ⟨b,1,none⟩=some v1∧w'.cell? ⟨b,2,none⟩=some v2∧w'.cell? ⟨b,3,none⟩=some v3∧w'.cell? ⟨b,4,none⟩=some v4∧w'.cell? ⟨b,5,none⟩=some v5:=by
  refine (refBig_int n k W hk hk8 h0 hn).mono fun e w' hx=>?_
  have hp:=hP.more (o2 hW.out hx.2)
  exact ⟨by rw [hx.1,hY],o2 hW.out hx.2,hp.c0,hp.c1,hp.c2,hp.c3,hp.c4,hp.c5⟩
set_option maxHeartbeats 3200000 in
theorem yencode_ok (w:World) (a k v r:Int) (h:ByteArray) (B cp:Nat) (ao:Option Addr) (l:List ByteArray) (hS:Strs w B ao l) (hV:Pg.valid ⟨a,k,v,r,h,l⟩) :
    Calls Tryz.prog 87 #[.agg #[.int .i64 a,.int .i64 k,.int .i64 v,.int .i64 r,.string h,.slice ao l.length cp]] w fun e w'=>e=.returned (.tuple #[.string (str (Pg.enc ⟨a,k,v,r,h,l⟩)),.int .i64 0])∧Only (fun _=>False) w w':=by
  have HV:=hide hV
  obtain ⟨⟨r0,r1,r2,r3,r4,r5,r6⟩,⟨f0,f1,f2⟩,hl⟩:=hV
  simp only [Pg.size] at r0 r1 r2 r3 r4 r5 r6 f0 f1 f2 hl
  have HF2:=hide f2
  have HZ:Hid (wrap64 (20+h.size+isz l)=((20+h.size+isz l:Nat):Int)):=by
    unfold Hid
    rw [w64_few hS.size (by omega) f1]
    omega
  obtain ⟨N,hN⟩:=exq (20+h.size+isz l)
  rw [hN] at HZ
  have hN5:(N:Int)≤512:=by omega
  have HN:=hide hN
  clear hN f2
  have HS:=hide hS
  clear hS
  obtain ⟨W0,hW0⟩:=exq (w.alloc (.cells #[.int .i64 a,.int .i64 k,.int .i64 v,.int .i64 r,.string h,.slice ao l.length cp] 24))
  have HP:=hide (Pag.new w (.int .i64 a) (.int .i64 k) (.int .i64 v) (.int .i64 r) (.string h) (.slice ao l.length cp))
  have HO0:=hide (onlyA w (.cells #[.int .i64 a,.int .i64 k,.int .i64 v,.int .i64 r,.string h,.slice ao l.length cp] 24))
  rw [hW0] at HP HO0
  have HW0:=hide hW0
  clear hW0
  obtain ⟨p0,p1,p2,p3,p4,p5,_⟩:=HP.out
  have hh3:¬ (255:Int) < (h.size:Int):=by omega
  have hl3:¬ (255:Int) < (l.length:Int):=by omega
  go_enter Tryz.func87,Tryz.ntmps87
  go_upto_region 1 with fail
  rw [HW0.out]
  go_wp2_with fail
  refine (ysize_any W0 a k v r h B cp ao l (HS.out.more HO0.out) (by omega)).mono ?_
  rw [HZ.out]
  rintro e w1 ⟨rfl,ho1⟩
  have HP1:=hide (HP.out.more ho1)
  have HO1:=hide (o2 HO0.out ho1)
  clear p0 p1 p2 p3 p4 p5 ho1
  obtain ⟨p0,p1,p2,p3,p4,p5,_⟩:=HP1.out
  obtain ⟨Y1,hY1⟩:=exq (str (bigF 8 a.toNat))
  obtain ⟨Y2,hY2⟩:=exq (str (bigF 1 k.toNat))
  obtain ⟨Y3,hY3⟩:=exq (str (bigF 1 v.toNat))
  obtain ⟨Y4,hY4⟩:=exq (str (bigF 4 r.toNat))
  obtain ⟨Y5,hY5⟩:=exq (str (bigF 1 (l.length:Int).toNat))
  obtain ⟨Y6,hY6⟩:=exq (str (bigF 1 (h.size:Int).toNat))
  have H1:=hide (rb w1 a 8 Y1 (by omega) (by omega) r0 hl hY1 w.heap.size _ _ _ _ _ _ HP1.out)
  have H2:=hide (rb w1 k 1 Y2 (by omega) (by omega) (by omega) (by omega) hY2 w.heap.size _ _ _ _ _ _ HP1.out)
  have H3:=hide (rb w1 v 1 Y3 (by omega) (by omega) (by omega) (by omega) hY3 w.heap.size _ _ _ _ _ _ HP1.out)
  have H4:=hide (rb w1 r 4 Y4 (by omega) (by omega) (by omega) (by omega) hY4 w.heap.size _ _ _ _ _ _ HP1.out)
  have H5:=hide (rb w1 (l.length:Int) 1 Y5 (by omega) (by omega) (by omega) (by omega) hY5 w.heap.size _ _ _ _ _ _ HP1.out)
  have H6:=hide (rb w1 (h.size:Int) 1 Y6 (by omega) (by omega) (by omega) (by omega) hY6 w.heap.size _ _ _ _ _ _ HP1.out)
  have s1:=str_len hY1
  have s2:=str_len hY2
  have s3:=str_len hY3
  have s4:=str_len hY4
  have s5:=str_len hY5
  have s6:=str_len hY6
  rw [bigF_len] at s1 s2 s3 s4 s5 s6
  obtain ⟨C1,hC1⟩:=exq (Y1++Y2)
  obtain ⟨C2,hC2⟩:=exq (C1++Y3)
  obtain ⟨C3,hC3⟩:=exq (C2++Y4)
  obtain ⟨C4,hC4⟩:=exq (C3++Y5)
  obtain ⟨C5,hC5⟩:=exq (C4++Y6)
  obtain ⟨C6,hC6⟩:=exq (C5++h)
  have t1:C1.size=9:=by rw [← hC1,ByteArray.size_append]; omega
  have t2:C2.size=10:=by rw [← hC2,ByteArray.size_append]; omega
  have t3:C3.size=14:=by rw [← hC3,ByteArray.size_append]; omega
  have t4:C4.size=15:=by rw [← hC4,ByteArray.size_append]; omega
  have t5:C5.size=16:=by rw [← hC5,ByteArray.size_append]; omega
  have HC6:Hid (C6=str (Pg.head ⟨a,k,v,r,h,l⟩++bl h++itemsL (l.take 0))):=by
    unfold Hid
    rw [← hC6,← hC5,← hC4,← hC3,← hC2,← hC1,← hY1,← hY2,← hY3,← hY4,← hY5,← hY6]
    exact head_cat a k v r h l (by omega) (by omega) f0 f1
  have l1:Y1.size+Y2.size≤9223372036854775807:=by omega
  have l2:C1.size+Y3.size≤9223372036854775807:=by omega
  have l3:C2.size+Y4.size≤9223372036854775807:=by omega
  have l4:C3.size+Y5.size≤9223372036854775807:=by omega
  have l5:C4.size+Y6.size≤9223372036854775807:=by omega
  have l6:C5.size+h.size≤9223372036854775807:=by omega
  clear hY1 hY2 hY3 hY4 hY5 hY6 s1 s2 s3 s4 s5 s6 t1 t2 t3 t4 t5
  go_upto_region 5 with fail
  -- {r5
  refine wp_region_noPanic ?_
  refine wp_region_held_drew (S:=fun W=>Only (fun _=>False) w1 W) (by kernel_rfl) (Only.drew _ _) (fun hHeld=>?_)
  refine tkP 0 (.pointer (some ⟨w.heap.size,0,none⟩)) rfl ?_
  refine tkP 3 (.pointer (some ⟨w.heap.size,1,none⟩)) rfl ?_
  refine tkP 7 (.pointer (some ⟨w.heap.size,2,none⟩)) rfl ?_
  refine tkP 11 (.pointer (some ⟨w.heap.size,3,none⟩)) rfl ?_
  refine tkP 15 (.pointer (some ⟨w.heap.size,5,none⟩)) rfl ?_
  refine tkP 20 (.pointer (some ⟨w.heap.size,4,none⟩)) rfl ?_
  refine tkP 25 (.pointer (some ⟨w.heap.size,4,none⟩)) rfl ?_
  refine tkQ 1 (.int .i64 a) rfl (yieldsIf_load_cell (by rfl) 3 _ rfl _ rfl (fun W hW=>(HP1.out.more hW).c0) (fun W hc=>ld_int hc)) ?_
  refine tkQ 4 (.int .i64 k) rfl (yieldsIf_load_cell (by rfl) 3 _ rfl _ rfl (fun W hW=>(HP1.out.more hW).c1) (fun W hc=>ld_int hc)) ?_
  refine tkQ 8 (.int .i64 v) rfl (yieldsIf_load_cell (by rfl) 3 _ rfl _ rfl (fun W hW=>(HP1.out.more hW).c2) (fun W hc=>ld_int hc)) ?_
  refine tkQ 12 (.int .i64 r) rfl (yieldsIf_load_cell (by rfl) 3 _ rfl _ rfl (fun W hW=>(HP1.out.more hW).c3) (fun W hc=>ld_int hc)) ?_
  refine tkQ 16 (.slice ao l.length cp) rfl (yieldsIf_load_cell (by rfl) 22 _ rfl _ rfl (fun W hW=>(HP1.out.more hW).c5) (fun W hc=>ld_strings hc)) ?_
  refine tkQ 21 (.string h) rfl (yieldsIf_load_cell (by rfl) 9 _ rfl _ rfl (fun W hW=>(HP1.out.more hW).c4) (fun W hc=>ld_string hc)) ?_
  refine tkQ 26 (.string h) rfl (yieldsIf_load_cell (by rfl) 9 _ rfl _ rfl (fun W hW=>(HP1.out.more hW).c4) (fun W hc=>ld_string hc)) ?_
  refine tkP 17 (.int .i64 (l.length:Int)) rfl ?_
  refine tkP 22 (.int .i64 (h.size:Int)) rfl ?_
  refine rd1 2 rfl (fun K hK=>?_)
  go_simp
  refine (H1.out _ (hide (Only.drew _ _))).mono ?_
  rintro e x1 ⟨rfl,HX1,_⟩
  refine hK.out _ _ (HX1.out) (fun hHeld=>?_)
  clear hK K
  try simp only [Act.put,lsA,lsB,lsC]
  refine rd1 5 rfl (fun K hK=>?_)
  go_simp
  refine (H2.out _ HX1).mono ?_
  rintro e x2 ⟨rfl,HX2,_⟩
  refine hK.out _ _ (HX2.out) (fun hHeld=>?_)
  clear hK K
  try simp only [Act.put,lsA,lsB,lsC]
  refine tkP 6 (.string C1) rfl ?_
  refine rd1 9 rfl (fun K hK=>?_)
  go_simp
  refine (H3.out _ HX2).mono ?_
  rintro e x3 ⟨rfl,HX3,_⟩
  refine hK.out _ _ (HX3.out) (fun hHeld=>?_)
  clear hK K
  try simp only [Act.put,lsA,lsB,lsC]
  refine tkP 10 (.string C2) rfl ?_
  refine rd1 13 rfl (fun K hK=>?_)
  go_simp
  refine (H4.out _ HX3).mono ?_
  rintro e x4 ⟨rfl,HX4,_⟩
  refine hK.out _ _ (HX4.out) (fun hHeld=>?_)
  clear hK K
  try simp only [Act.put,lsA,lsB,lsC]
  refine tkP 14 (.string C3) rfl ?_
  refine rd1 18 rfl (fun K hK=>?_)
  go_simp
  refine (H5.out _ HX4).mono ?_
  rintro e x5 ⟨rfl,HX5,_⟩
  refine hK.out _ _ (HX5.out) (fun hHeld=>?_)
  clear hK K
  try simp only [Act.put,lsA,lsB,lsC]
  refine tkP 19 (.string C4) rfl ?_
  refine rd1 23 rfl (fun K hK=>?_)
  go_simp
  refine (H6.out _ HX5).mono ?_
  rintro e x6 ⟨rfl,HX6,_⟩
  refine hK.out _ _ (HX6.out) (fun hHeld=>?_)
  clear hK K
  try simp only [Act.put,lsA,lsB,lsC]
  refine tkP 24 (.string C5) rfl ?_
  refine tkP 27 (.string C6) rfl ?_
  refine tkP 28 (.string C6) rfl ?_
  refine dnN ?_
  -- r5}
  rw [Exit.then]
  have HX:Hid (Only (fun _=>False) w1 x6):=hHeld
  obtain ⟨hd,hhd⟩:=exq (Pg.head ⟨a,k,v,r,h,l⟩++bl h)
  have HHL:Hid (hd.length+isz l≤508∧hd.length+isz l+(512 - N)=508):=by
    unfold Hid
    rw [← hhd,List.length_append,head_len,bl_len]
    have:=HF2.out
    have:=HN.out
    omega
  have HBD:Hid (hd++itemsL l++List.replicate (512 - N) 0=Pg.body ⟨a,k,v,r,h,l⟩):=by
    unfold Hid
    rw [← hhd,← HN.out]
    simp [Pg.body,Pg.front,Pg.size]
  rw [hhd] at HC6
  clear hhd hC1 hC2 hC3 hC4 hC5 hC6 l1 l2 l3 l4 l5 l6 H1 H2 H3 H4 H5 H6 HX1 HX2 HX3 HX4 HX5 HX6 hHeld p0 p1 p2 p3 p4 p5
  go_wp2_with fail
  go_loopw [4,5] (fun x y wr=>∃ (j:Nat) (X:ByteArray),j≤l.length∧y=.int .i64 (j:Int)∧x=.string X∧Hid (X=str (hd++itemsL (l.take j)))∧Hid (Only (fun _=>False) w1 wr)) (fun _ y _=>l.length - (intOf y).toNat)
  case atStart=>exact ⟨0,C6,by omega,rfl,rfl,HC6,HX⟩
  case round=>
    obtain ⟨j,X,hj,rfl,rfl,HE,HO⟩:=hrel
    obtain ⟨p0,p1,p2,p3,p4,p5,_⟩:=HP1.out.more HO.out
    by_cases hlt:j < l.length
    · obtain ⟨o1,e1,c1⟩:=(HS.out.more (o2 HO1.out HO.out)).at_ (by omega)
      have hBlt:=(HS.out.more (o2 HO1.out HO.out)).lt (by omega)
      have k1:=c1 j hlt
      have hz:=HS.out.size l[j] (List.getElem_mem hlt)
      have hj1:(j:Int) < (l.length:Int):=by omega
      have hj0:(0:Int)≤(j:Int):=by omega
      have HT:Hid (itemsL (l.take (j+1))=itemsL (l.take j)++(bigF 2 l[j].size++bl l[j])):=itemsL_snoc l j hlt
      have HB2:Hid (hd.length+isz (l.take j)+2+l[j].size≤508):=by
        have h1:=HHL.out.1
        have h2:=isz_snoc l j hlt
        have h3:isz (l.take (j+1))≤isz l:=by
          conv=>rhs; rw [← List.take_append_drop (j+1) l,isz_app]
          omega
        unfold Hid
        omega
      obtain ⟨s,hs⟩:=exq (l[j])
      rw [hs] at k1 hz HT HB2
      have KI:Hid (∀ W,Only (fun _=>False) wr W→W.cell? ⟨B,o1+j,none⟩=some (.string s)):=fun W hW=>(hW.cell (p:=⟨B,o1+j,none⟩) hBlt (fun h=>h)).trans k1
      obtain ⟨Y,hY⟩:=exq (str (bigF 2 s.size))
      have hYs:=str_len hY
      rw [bigF_len] at hYs
      have hXs:X.size=hd.length+isz (l.take j):=by rw [HE.out,str_size,List.length_append,itemsL_len]
      have hb2:=HB2.out
      obtain ⟨D1,hD1⟩:=exq (X++Y)
      obtain ⟨D2,hD2⟩:=exq (D1++s)
      have hD1s:D1.size=X.size+Y.size:=by rw [← hD1,ByteArray.size_append]
      have m1:X.size+Y.size≤9223372036854775807:=by omega
      have m2:D1.size+s.size≤9223372036854775807:=by omega
      have HD2:Hid (D2=str (hd++itemsL (l.take (j+1)))):=by
        unfold Hid
        rw [← hD2,← hD1,← hY,HE.out,HT.out,str_cat,str_app]
        simp only [List.append_assoc]
      have H9:Hid (∀ W,Calls Tryz.prog 117 #[.int .i64 (s.size:Int),.int .i64 2] W fun e w'=>e=.returned (.string Y)∧Only (fun _=>False) W w'):=fun W=>by
        have h1:=refBig_any s.size 2 W (by omega) (by omega) (by omega)
        rw [← hY]
        exact h1
      have HPR:=hide (HP1.out.more HO.out)
      clear c1 hs hBlt k1 hXs hb2 hD1s hY hYs HT HB2 p0 p1 p2 p3 p4
      subst e1
      go_upto_region 9 with fail
      -- {r9
      refine wp_region_noPanic ?_
      refine wp_region_held_drew (S:=fun W=>Only (fun _=>False) wr W) (by kernel_rfl) (Only.drew _ _) (fun hHeld=>?_)
      refine tkP 0 (.string X) rfl ?_
      refine tkP 1 (.pointer (some ⟨w.heap.size,5,none⟩)) rfl ?_
      refine tkP 3 (.int .i64 (j:Int)) rfl ?_
      refine tkP 9 (.pointer (some ⟨w.heap.size,5,none⟩)) rfl ?_
      refine tkP 11 (.int .i64 (j:Int)) rfl ?_
      refine tkQ 2 (.slice (some ⟨B,o1,none⟩) l.length cp) rfl (yieldsIf_load_cell (by rfl) 22 _ rfl _ rfl (fun W hW=>(HPR.out.more hW).c5) (fun W hc=>ld_strings hc)) ?_
      refine tkQ 10 (.slice (some ⟨B,o1,none⟩) l.length cp) rfl (yieldsIf_load_cell (by rfl) 22 _ rfl _ rfl (fun W hW=>(HPR.out.more hW).c5) (fun W hc=>ld_strings hc)) ?_
      refine tkP 4 (.pointer (some ⟨B,o1+j,none⟩)) rfl ?_
      refine tkP 12 (.pointer (some ⟨B,o1+j,none⟩)) rfl ?_
      refine tkQ 5 (.string s) rfl (yieldsIf_load_cell (by rfl) 9 _ rfl _ rfl (fun W hW=>KI.out W hW) (fun W hc=>ld_string hc)) ?_
      refine tkQ 13 (.string s) rfl (yieldsIf_load_cell (by rfl) 9 _ rfl _ rfl (fun W hW=>KI.out W hW) (fun W hc=>ld_string hc)) ?_
      refine tkP 6 (.int .i64 (s.size:Int)) rfl ?_
      refine rd1 7 rfl (fun K hK=>?_)
      go_simp
      refine (H9.out _).mono ?_
      rintro e x1 ⟨rfl,hx1⟩
      refine hK.out _ _ (o2 (Only.drew _ _) hx1) (fun hHeld=>?_)
      clear hK K
      try simp only [Act.put,lsA,lsB,lsC]
      refine tkP 8 (.string D1) rfl ?_
      refine tkP 14 (.string D2) rfl ?_
      refine tkP 15 (.string D2) rfl ?_
      refine dnN ?_
      -- r9}
      have HX9:Hid (Only (fun _=>False) wr x1):=hHeld
      clear hD1 hD2 m1 m2 H9 KI HPR hHeld p5
      go_wp2_with fail
      go_roundw
      case rel=>exact ⟨j+1,D2,by omega,by go_num,rfl,HD2,o2 HO.out HX9.out⟩
      case measure=>simp [intOf]; omega
    · have ej:l.take j=l:=List.take_of_length_le (by omega)
      rw [ej] at HE
      obtain ⟨c,hc⟩:∃ c:Nat,512 - N=c:=⟨_,rfl⟩
      have hXs:X.size=hd.length+isz l:=by rw [HE.out,str_size,List.length_append,itemsL_len]
      have hhl:=HHL.out
      rw [hc] at hhl HBD
      have hsub:(508:Int) - (X.size:Int)=(c:Int):=by omega
      have hwc:IntKind.i64.wrap (c:Int)=(c:Int):=wraps_i64 _ (by omega) (by omega)
      obtain ⟨O,hmk,hcv⟩:=zeros_at c (by omega)
      have hcvA:∀ (W:World) (g:Nat),g=W.heap.size→(convert 142 9 (.slice (some ⟨g,0,none⟩) c c)).run Tryz.prog (W.alloc O)=.ok (.string (str (List.replicate c 0))) (W.alloc O):=fun W g hg=>hcv W g _ hg (Only.refl _ _)
      obtain ⟨Z,hZ⟩:=exq (str (List.replicate c 0))
      have hZs:=str_len hZ
      rw [List.length_replicate] at hZs
      simp only [hZ] at hcvA
      obtain ⟨T,hT⟩:=exq (X++Z)
      have hTs:T.size=508:=by rw [← hT,ByteArray.size_append]; omega
      have HT:Hid (T=str (Pg.body ⟨a,k,v,r,h,l⟩)):=by unfold Hid; rw [← hT,HE.out,← hZ,str_cat,HBD.out]
      have m1:X.size+Z.size≤9223372036854775807:=by omega
      have m1':¬ (9223372036854775807:Int) < (X.size:Int)+(Z.size:Int):=by omega
      clear hZ hZs hXs hhl hcv
      go_upto_region 10 with fail
      go_wp2_with fail
      have hTle:T.size≤508:=by omega
      have hsb:=sum_bd T.data.toList
      have HSUM:Hid (T.data.toList=Pg.body ⟨a,k,v,r,h,l⟩):=by unfold Hid; rw [HT.out]; rfl
      refine (refSum_any T _ (by unfold maxLen; omega)).mono ?_
      obtain ⟨z,hz⟩:=exq (sum T.data.toList)
      rw [hz] at hsb ⊢
      rintro e w4 ⟨rfl,rfl⟩
      have hz0:=hsb.1
      have hz1:=hsb.2
      have HO4:Hid (Only (fun _=>False) w (wr.alloc O)):=o2 (o2 HO1.out HO.out) (onlyA _ _)
      go_wp2_with fail
      refine (refBig_int z 4 _ (by omega) (by omega) hz0 (by omega)).mono ?_
      rintro e w5 ⟨rfl,ho5⟩
      obtain ⟨Y,hYe⟩:=exq (str (bigF 4 z.toNat))
      have hYs:Y.size≤4:=by rw [← hYe,str_size,bigF_len]; omega
      have HFIN:Hid (Y++T=str (Pg.enc ⟨a,k,v,r,h,l⟩)):=by unfold Hid; rw [← hYe,HT.out,str_cat,← hz,HSUM.out]; rfl
      rw [hYe]
      have HO5:=hide (o2 HO4.out ho5)
      clear ho5 hYe hz
      have hXY:¬ (9223372036854775807:Int) < (Y.size:Int)+(T.size:Int):=by omega
      go_wp2_with fail
      go_ret2
      rw [← HFIN.out]
      exact ⟨rfl,HO5.out⟩
set_option maxHeartbeats 1600000 in
theorem yencode_long (w:World) (a k v r:Int) (h:ByteArray) (B cp:Nat) (ao:Option Addr) (l:List ByteArray) (hS:Strs w B ao l) (hh:h.size≤140737488355328) (hr:Pg.inRange ⟨a,k,v,r,h,l⟩) (hf:¬ Pg.fits ⟨a,k,v,r,h,l⟩) :
    Calls Tryz.prog 87 #[.agg #[.int .i64 a,.int .i64 k,.int .i64 v,.int .i64 r,.string h,.slice ao l.length cp]] w fun e w'=>e=.returned (.tuple #[.string (str []),.int .i64 3])∧Only (fun _=>False) w w':=by
  obtain ⟨r0,r1,r2,r3,r4,r5,r6⟩:=hr
  simp only at r0 r1 r2 r3 r4 r5 r6
  have hlen:=hS.len
  have HS:=hide hS
  clear hS
  obtain ⟨W0,hW0⟩:=exq (w.alloc (.cells #[.int .i64 a,.int .i64 k,.int .i64 v,.int .i64 r,.string h,.slice ao l.length cp] 24))
  have HP:=hide (Pag.new w (.int .i64 a) (.int .i64 k) (.int .i64 v) (.int .i64 r) (.string h) (.slice ao l.length cp))
  have HO0:=hide (onlyA w (.cells #[.int .i64 a,.int .i64 k,.int .i64 v,.int .i64 r,.string h,.slice ao l.length cp] 24))
  rw [hW0] at HP HO0
  have HW0:=hide hW0
  clear hW0
  obtain ⟨p0,p1,p2,p3,p4,p5,_⟩:=HP.out
  by_cases h1:255 < h.size
  · have hh3:(255:Int) < (h.size:Int):=by omega
    clear hf h1
    go_enter Tryz.func87,Tryz.ntmps87
    go_upto_region 1 with fail
    rw [HW0.out]
    go_wp2_with fail
    go_ret2
    exact ⟨rfl,HO0.out⟩
  · have hh3:¬ (255:Int) < (h.size:Int):=by omega
    by_cases h2:255 < l.length
    · have hl3:(255:Int) < (l.length:Int):=by omega
      clear hf h1 h2
      go_enter Tryz.func87,Tryz.ntmps87
      go_upto_region 1 with fail
      rw [HW0.out]
      go_wp2_with fail
      go_ret2
      exact ⟨rfl,HO0.out⟩
    · have hl3:¬ (255:Int) < (l.length:Int):=by omega
      have h3:512 < 20+h.size+isz l:=by
        refine Classical.byContradiction fun h3=>hf ⟨?_,?_,?_⟩
        · simp only; omega
        · simp only; omega
        · simp only [Pg.size]; omega
      have HZ:=hide (w64_few HS.out.size hh (by omega))
      have hbb:=isz_le HS.out.size
      obtain ⟨N,hN⟩:∃ N:Nat,20+h.size+isz l=N:=⟨_,rfl⟩
      have hN2:(20+h.size+isz l:Int)=N:=by omega
      rw [hN2] at HZ
      rw [hN] at h3
      have hN5:(512:Int) < (N:Int):=by omega
      have HN2:=hide hN2
      clear hf h1 h2 hN hN2 hbb h3
      go_enter Tryz.func87,Tryz.ntmps87
      go_upto_region 1 with fail
      rw [HW0.out]
      go_wp2_with fail
      refine (ysize_any W0 a k v r h B cp ao l (HS.out.more HO0.out) hh).mono ?_
      rw [HN2.out,HZ.out]
      rintro e w1 ⟨rfl,ho1⟩
      have HO1:=hide (o2 HO0.out ho1)
      clear ho1
      go_wp2_with fail
      go_ret2
      exact ⟨rfl,HO1.out⟩
set_option maxHeartbeats 1600000 in
theorem yencode_range (w:World) (a k v r:Int) (h:ByteArray) (cp n:Nat) (ao:Option Addr) (hr:¬ (0≤a∧1≤k∧k≤3∧0≤v∧v≤255∧0≤r∧r≤4294967295)) :
    Calls Tryz.prog 87 #[.agg #[.int .i64 a,.int .i64 k,.int .i64 v,.int .i64 r,.string h,.slice ao n cp]] w fun e w'=>e=.returned (.tuple #[.string (str []),.int .i64 4])∧Only (fun _=>False) w w':=by
  have HR:=hide hr
  clear hr
  obtain ⟨W0,hW0⟩:=exq (w.alloc (.cells #[.int .i64 a,.int .i64 k,.int .i64 v,.int .i64 r,.string h,.slice ao n cp] 24))
  have HP:=hide (Pag.new w (.int .i64 a) (.int .i64 k) (.int .i64 v) (.int .i64 r) (.string h) (.slice ao n cp))
  have HO0:=hide (onlyA w (.cells #[.int .i64 a,.int .i64 k,.int .i64 v,.int .i64 r,.string h,.slice ao n cp] 24))
  rw [hW0] at HP HO0
  have HW0:=hide hW0
  clear hW0
  obtain ⟨p0,p1,p2,p3,p4,p5,_⟩:=HP.out
  go_enter Tryz.func87,Tryz.ntmps87
  go_upto_region 1 with fail
  rw [HW0.out]
  go_upto_region 3 with fail
  all_goals first
    | (go_ret2; exact ⟨rfl,HO0.out⟩)
    | exact absurd (by omega) HR.out
theorem yencode_any (w:World) (a k v r:Int) (h:ByteArray) (B cp:Nat) (ao:Option Addr) (l:List ByteArray) (hS:Strs w B ao l) (hh:h.size≤140737488355328) (ha:a < 9223372036854775808) :
    Calls Tryz.prog 87 #[.agg #[.int .i64 a,.int .i64 k,.int .i64 v,.int .i64 r,.string h,.slice ao l.length cp]] w fun e w'=>e=.returned (.tuple #[.string (str (Pg.out ⟨a,k,v,r,h,l⟩).1),.int .i64 (Pg.out ⟨a,k,v,r,h,l⟩).2])∧Only (fun _=>False) w w':=by
  by_cases hr:Pg.inRange ⟨a,k,v,r,h,l⟩
  · by_cases hf:Pg.fits ⟨a,k,v,r,h,l⟩
    · rw [out_ok hr hf]
      exact yencode_ok w a k v r h B cp ao l hS ⟨hr,hf,ha⟩
    · rw [out_long hr hf]
      exact yencode_long w a k v r h B cp ao l hS hh hr hf
  · rw [out_range hr]
    exact yencode_range w a k v r h cp l.length ao hr
end Go.Proofs.YtipkeeobmihogaaGreat
