/- Parts. -/
import Derived.Test.YtipkeeobmihogaaGreatK01
set_option maxRecDepth 100000
namespace Go.Proofs.YtipkeeobmihogaaGreat
open Go.RowKit
theorem set_rep (j:Nat) (d:List UInt8) (u:UInt8):(List.replicate (j+1) 0++d).set j u=List.replicate j 0++u :: d:=by
  induction j with
  | zero=>rfl
  | succ j ih=>
    rw [List.replicate_succ,List.cons_append,List.set_cons_succ,ih]
    rfl
def bigF:Nat→Nat→List UInt8
  | 0,_=>[]
  | k+1,n=>bigF k (n / 256)++[UInt8.ofNat (n % 256)]
theorem bigF_len (k n:Nat):(bigF k n).length=k:=by
  induction k generalizing n with
  | zero=>rfl
  | succ k ih=>simp [bigF,ih]
theorem Tryz.infoByte:(Tryz.prog.info? 5).map (fun i=>(i.zero,i.size,i.bytes))=some (some (.int .u8 0),1,1):=by kernel_rfl
set_option maxHeartbeats 400000 in
theorem sumByte_any (c:Int) (w:World) (h0:0≤c) (h1:c < 4294967296) :
    Calls Tryz.prog 109 #[.int .u32 c] w fun e w'=>e=.returned (.int .u32 (sby 8 c))∧w'=w:=by
  go_enter Tryz.func109,Tryz.ntmps109
  go_wp2
  go_loop [0,3] (fun c' i=>∃ (k:Nat) (q:Int),k≤8∧i=.int .i64 k∧c'=.int .u32 q∧q=sby k c∧0≤q∧q < 4294967296) (fun _ i=>8 - (intOf i).toNat)
  case atStart=>exact ⟨0,c,by omega,rfl,rfl,rfl,h0,h1⟩
  case round=>
    obtain ⟨k,q,hk,rfl,rfl,hq,q0,q1⟩:=hrel
    have HQ:Hid (q=sby k c):=hq
    clear hq
    by_cases hlt:k < 8
    · have hb:=sbit_bd q q0 q1
      have HB:Hid (0≤sbit q∧sbit q < 4294967296):=hb
      clear hb
      go_wp2
      · go_round
        case rel=>
          have hs:=sbit_yes q ‹_›
          rw [hs]
          exact ⟨k+1,sbit q,by omega,by go_num,rfl,by rw [HQ.out]; rfl,HB.out.1,HB.out.2⟩
        case measure=>simp [intOf]; omega
      · go_round
        case rel=>
          have hs:=sbit_no q ‹_›
          rw [hs]
          exact ⟨k+1,sbit q,by omega,by go_num,rfl,by rw [HQ.out]; rfl,HB.out.1,HB.out.2⟩
        case measure=>simp [intOf]; omega
    · have HK:Hid (k=8):=by unfold Hid; omega
      go_wp2
      go_ret
      exact ⟨ret_int (by rw [HQ.out,HK.out]),rfl⟩
set_option maxHeartbeats 400000 in
theorem sum_any (s:ByteArray) (w:World) (hs:s.size≤maxLen) :
    Calls Tryz.prog 78 #[.string s] w fun e w'=>e=.returned (.int .u32 (sum s.data.toList))∧w'=w:=by
  unfold maxLen at hs
  go_enter Tryz.func78,Tryz.ntmps78
  go_wp2
  go_loop [3,4] (fun c i=>∃ (k:Nat) (q:Int),k≤s.size∧i=.int .i64 k∧c=.int .u32 q∧q=sumTo (s.data.toList.take k)∧0≤q∧q < 4294967296) (fun _ i=>s.size - (intOf i).toNat)
  case atStart=>exact ⟨0,4294967295,Nat.zero_le _,rfl,rfl,rfl,by decide,by decide⟩
  case round=>
    obtain ⟨k,q,hk,rfl,rfl,hq,q0,q1⟩:=hrel
    have HQ:Hid (q=sumTo (s.data.toList.take k)):=hq
    clear hq
    by_cases hlt:k < s.size
    · have hxb:=xor32_bd q ((s[k].toNat:Int) % 4294967296)
      have HS:Hid (sumTo (s.data.toList.take (k+1))=sby 8 (bits BinOp.xor IntKind.u32 q ((s[k].toNat:Int) % 4294967296))):=by
        unfold Hid; rw [take_snoc s k hlt,sumTo_snoc,← HQ.out]
      have hbb:=sby_bd 8 _ hxb.1 hxb.2
      have HBB:Hid (0≤sby 8 (bits BinOp.xor IntKind.u32 q ((s[k].toNat:Int) % 4294967296))∧sby 8 (bits BinOp.xor IntKind.u32 q ((s[k].toNat:Int) % 4294967296)) < 4294967296):=hbb
      clear hbb
      go_wp2_with (go_at_call 109; refine (sumByte_any _ _ (by omega) (by omega)).mono ?_; rintro e w' ⟨rfl,rfl⟩)
      go_round
      case rel=>exact ⟨k+1,_,by omega,by go_num,rfl,HS.out.symm,HBB.out.1,HBB.out.2⟩
      case measure=>simp [intOf]; omega
    · have HT:=take_all s k hlt
      go_wp2
      go_ret
      exact ⟨ret_int (by rw [HQ.out,HT]; rfl),rfl⟩
theorem bytes_back (w:World) (base:Nat) (v:Value) (row:Option Nat) (l:List UInt8) (hr:Row w base v row l):(convert 142 9 v).run Tryz.prog w=.ok (.string ⟨l.toArray⟩) w:=by
  rcases hr.own.2 with ⟨rfl,hn⟩ | ⟨g,cap,cur,rfl,hb,hg,hn,hm,hs,htake⟩
  · have e:l=[]:=List.eq_nil_of_length_eq_zero hn
    subst e
    rw [run_convert_bytes_nil w 142 5 Tryz.underlying142 Tryz.underlying5 0 0 9 Tryz.underlying9]
    rfl
  · refine run_convert_bytes_back w 142 9 5 ⟨g,0,none⟩ cap l Tryz.underlying142 Tryz.underlying5 Tryz.underlying9 ?_
    intro j hj
    refine hr.own.cells (g:=g) rfl j _ ?_
    unfold cells
    simp [List.getElem?_eq_getElem hj]
set_option maxHeartbeats 800000 in
theorem big_any (n k:Nat) (w:World) (hk:1≤k) (hk8:k≤8) (hn:n < 9223372036854775808) :
    Calls Tryz.prog 77 #[.int .i64 n,.int .i64 k] w fun e w'=>e=.returned (.string ⟨(bigF k n).toArray⟩)∧Only (fun _=>False) w w':=by
  obtain ⟨i0,hi,hz0,hz1,hz2⟩:=info_parts Tryz.infoByte
  obtain ⟨w1,hmk,hown,hgr⟩:=run_make_full (P:=Tryz.prog) w w.heap.size 142 5 i0 (.int .u8 0) 1 Tryz.underlying142 hi hz0 hz1 .i64 .i64 k (by rw [hz2]; omega) (by unfold maxLen; omega) (Nat.le_refl _)
  have hrow:Row w1 w.heap.size (.slice (some ⟨w.heap.size,0,none⟩) k k) (some w.heap.size) (List.replicate k 0):=by
    refine ⟨?_,rfl⟩
    have e:(madeCells (Value.int .u8 0).cells (k * 1)).toList=cells (List.replicate k 0):=by
      have:(Value.int IntKind.u8 0).cells=#[.int .u8 0]:=rfl
      rw [this,toList_madeCells_one]; simp [cells]
    rw [e] at hown
    simpa using hown
  have hon:Only (fun _=>False) w w1:=Only.grown hgr (fun k hk=>by cases hk)
  have HROW:=hide hrow
  have HON:=hide hon
  clear hrow hon hgr hown
  go_enter Tryz.func77,Tryz.ntmps77
  go_wp2
  go_loopw [0,6] (fun x i wr=>∃ (j q:Nat) (d:List UInt8),j≤k∧i=.int .i64 ((j:Int) - 1)∧x=.int .i64 q∧q < 9223372036854775808∧Hid (bigF j q++d=bigF k n)∧Hid (Row wr w.heap.size (.slice (some ⟨w.heap.size,0,none⟩) k k) (some w.heap.size) (List.replicate j 0++d))∧Hid (Only (fun _=>False) w wr))
    (fun _ i _=>(intOf i+1).toNat)
  case atStart=>exact ⟨k,n,[],by omega,rfl,rfl,hn,by unfold Hid; simp,by rw [List.append_nil]; exact HROW,HON⟩
  case round=>
    obtain ⟨j,q,d,hj,rfl,rfl,hq,HB,HR,HO⟩:=hrel
    by_cases hlt:1≤j
    · obtain ⟨j',rfl⟩:∃ j',j=j'+1:=⟨j - 1,by omega⟩
      obtain ⟨⟨v0,hc0⟩,hf0⟩:=HR.out.at0 (j:=j') (by omega)
      go_wp2
      have hd:((UInt8.ofNat (q % 256)).toNat:Int)=(q:Int) % 256:=by rw [byte_nat (by omega)]; omega
      have hst:=HR.out.store j' (UInt8.ofNat (q % 256))
      rw [hd,set_rep] at hst
      have hB2:bigF j' (q / 256)++UInt8.ofNat (q % 256) :: d=bigF k n:=by rw [← HB.out,bigF]; simp
      go_roundw
      case rel=>exact ⟨j',q / 256,UInt8.ofNat (q % 256) :: d,by omega,by go_num,by go_num,by omega,hB2,hst.1,HO.out.trans hst.2 (fun i h1 h2=>by omega)⟩
      case measure=>simp [intOf]
    · have e0:j=0:=by omega
      have hB2:d=bigF k n:=by have h:=HB.out; rw [e0] at h; simpa [bigF] using h
      have hR2:=HR.out
      rw [e0,hB2] at hR2
      have hR3:Row wr w.heap.size (.slice (some ⟨w.heap.size,0,none⟩) k k) (some w.heap.size) (bigF k n):=by simpa using hR2
      have hcv:=bytes_back wr _ _ _ _ hR3
      clear hR2 hB2
      have HR3:=hide hR3
      clear hR3
      go_wp2
      go_ret
      exact ⟨rfl,HO.out⟩
theorem sbit_yes2 (q:Int) (h0:0≤q) (h1:q < 4294967296) (h:(q % 2 == 1)=true):bits BinOp.xor IntKind.u32 (q / 2) 3988292384=sbit q :=
  sbit_yes q (by rw [and1_u32 q h0 h1]; exact h)
theorem sbit_no2 (q:Int) (h0:0≤q) (h1:q < 4294967296) (h:(q % 2 == 1)=false):q / 2=sbit q :=
  sbit_no q (by rw [and1_u32 q h0 h1]; exact h)
set_option maxHeartbeats 800000 in
theorem refSum_any (s:ByteArray) (w:World) (hs:s.size≤maxLen) :
    Calls Tryz.prog 118 #[.string s] w fun e w'=>e=.returned (.int .u32 (sum s.data.toList))∧w'=w:=by
  unfold maxLen at hs
  go_enter Tryz.func118,Tryz.ntmps118
  go_wp2
  go_loop [3,4,5,6] (fun c i _ _=>∃ (k:Nat) (q:Int),k≤s.size∧i=.int .i64 k∧c=.int .u32 q∧Hid (q=sumTo (s.data.toList.take k))∧0≤q∧q < 4294967296) (fun _ i _ _=>s.size - (intOf i).toNat)
  case atStart=>exact ⟨0,4294967295,Nat.zero_le _,rfl,rfl,rfl,by decide,by decide⟩
  case round=>
    obtain ⟨k,q,hk,rfl,rfl,HQ,q0,q1⟩:=hrel
    by_cases hlt:k < s.size
    · have hxb:=xor32_bd q ((s[k].toNat:Int) % 4294967296)
      have HS:Hid (sumTo (s.data.toList.take (k+1))=sby 8 (bits BinOp.xor IntKind.u32 q ((s[k].toNat:Int) % 4294967296))):=by
        unfold Hid; rw [take_snoc s k hlt,sumTo_snoc,← HQ.out]
      go_wp2
      go_loop [3,5,6] (fun c i _=>∃ (j:Nat) (p:Int),j≤8∧i=.int .i64 j∧c=.int .u32 p∧Hid (p=sby j (bits BinOp.xor IntKind.u32 q ((s[k].toNat:Int) % 4294967296)))∧0≤p∧p < 4294967296) (fun _ i _=>8 - (intOf i).toNat)
      case atStart=>exact ⟨0,_,by omega,rfl,rfl,rfl,hxb.1,hxb.2⟩
      case round=>
        obtain ⟨j,p,hj,rfl,rfl,HP,p0,p1⟩:=hrel
        by_cases hjl:j < 8
        · have HB:=hide (sbit_bd p p0 p1)
          go_wp2
          · go_round
            case rel=>
              have hs2:=sbit_yes2 p p0 p1 ‹_›
              rw [hs2]
              exact ⟨j+1,sbit p,by omega,by go_num,rfl,by unfold Hid; rw [HP.out]; rfl,HB.out.1,HB.out.2⟩
            case measure=>simp [intOf]; omega
          · go_round
            case rel=>
              have hs2:=sbit_no2 p p0 p1 ‹_›
              rw [hs2]
              exact ⟨j+1,sbit p,by omega,by go_num,rfl,by unfold Hid; rw [HP.out]; rfl,HB.out.1,HB.out.2⟩
            case measure=>simp [intOf]; omega
        · have HJ:Hid (j=8):=by unfold Hid; omega
          go_wp2
          go_round
          case rel=>exact ⟨k+1,p,by omega,by go_num,rfl,by unfold Hid; rw [HP.out,HJ.out,HS.out],p0,p1⟩
          case measure=>simp [intOf]; omega
    · have HT:=take_all s k hlt
      go_wp2
      go_ret
      exact ⟨ret_int (by rw [HQ.out,HT]; rfl),rfl⟩
set_option maxHeartbeats 800000 in
theorem refBig_any (n k:Nat) (w:World) (hk:1≤k) (hk8:k≤8) (hn:n < 9223372036854775808) :
    Calls Tryz.prog 117 #[.int .i64 n,.int .i64 k] w fun e w'=>e=.returned (.string ⟨(bigF k n).toArray⟩)∧Only (fun _=>False) w w':=by
  obtain ⟨i0,hi,hz0,hz1,hz2⟩:=info_parts Tryz.infoByte
  obtain ⟨w1,hmk,hown,hgr⟩:=run_make_full (P:=Tryz.prog) w w.heap.size 142 5 i0 (.int .u8 0) 1 Tryz.underlying142 hi hz0 hz1 .i64 .i64 k (by rw [hz2]; omega) (by unfold maxLen; omega) (Nat.le_refl _)
  have hrow:Row w1 w.heap.size (.slice (some ⟨w.heap.size,0,none⟩) k k) (some w.heap.size) (List.replicate k 0):=by
    refine ⟨?_,rfl⟩
    have e:(madeCells (Value.int .u8 0).cells (k * 1)).toList=cells (List.replicate k 0):=by
      have:(Value.int IntKind.u8 0).cells=#[.int .u8 0]:=rfl
      rw [this,toList_madeCells_one]; simp [cells]
    rw [e] at hown
    simpa using hown
  have hon:Only (fun _=>False) w w1:=Only.grown hgr (fun k hk=>by cases hk)
  have HROW:=hide hrow
  have HON:=hide hon
  clear hrow hon hgr hown
  go_enter Tryz.func117,Tryz.ntmps117
  go_wp2
  go_loopw [0,6] (fun x i wr=>∃ (j q:Nat) (d:List UInt8),j≤k∧i=.int .i64 ((j:Int) - 1)∧x=.int .i64 q∧q < 9223372036854775808∧Hid (bigF j q++d=bigF k n)∧Hid (Row wr w.heap.size (.slice (some ⟨w.heap.size,0,none⟩) k k) (some w.heap.size) (List.replicate j 0++d))∧Hid (Only (fun _=>False) w wr))
    (fun _ i _=>(intOf i+1).toNat)
  case atStart=>exact ⟨k,n,[],by omega,rfl,rfl,hn,by unfold Hid; simp,by rw [List.append_nil]; exact HROW,HON⟩
  case round=>
    obtain ⟨j,q,d,hj,rfl,rfl,hq,HB,HR,HO⟩:=hrel
    by_cases hlt:1≤j
    · obtain ⟨j',rfl⟩:∃ j',j=j'+1:=⟨j - 1,by omega⟩
      obtain ⟨⟨v0,hc0⟩,hf0⟩:=HR.out.at0 (j:=j') (by omega)
      go_wp2
      have hd:((UInt8.ofNat (q % 256)).toNat:Int)=(q:Int) % 256:=by rw [byte_nat (by omega)]; omega
      have hst:=HR.out.store j' (UInt8.ofNat (q % 256))
      rw [hd,set_rep] at hst
      have hB2:bigF j' (q / 256)++UInt8.ofNat (q % 256) :: d=bigF k n:=by rw [← HB.out,bigF]; simp
      go_roundw
      case rel=>exact ⟨j',q / 256,UInt8.ofNat (q % 256) :: d,by omega,by go_num,by go_num,by omega,hB2,hst.1,HO.out.trans hst.2 (fun i h1 h2=>by omega)⟩
      case measure=>simp [intOf]
    · have e0:j=0:=by omega
      have hB2:d=bigF k n:=by have h:=HB.out; rw [e0] at h; simpa [bigF] using h
      have hR2:=HR.out
      rw [e0,hB2] at hR2
      have hR3:Row wr w.heap.size (.slice (some ⟨w.heap.size,0,none⟩) k k) (some w.heap.size) (bigF k n):=by simpa using hR2
      have hcv:=bytes_back wr _ _ _ _ hR3
      clear hR2 hB2
      have HR3:=hide hR3
      clear hR3
      go_wp2
      go_ret
      exact ⟨rfl,HO.out⟩
end Go.Proofs.YtipkeeobmihogaaGreat
