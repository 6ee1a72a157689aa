/- Parts. -/
import Derived.Test.YtipkeeobmihogaaGreatK19
set_option maxRecDepth 100000
namespace Go.Proofs.YtipkeeobmihogaaGreat
open Go.RowKit
def XPost (w w':World) (x:Nat) (s:ByteArray) (l:List UInt8) (y:Int):Prop :=
  ∃ p':Nat,XR w' x s p' y∧(y=0→p'≤s.size∧s.data.toList.drop p'=l)∧Only (fun k=>k=x) w w'
theorem drop_at (s:ByteArray) (p j:Nat) (h:p+j < s.size):(s.data.toList.drop p).drop j=s[p+j] :: (s.data.toList.drop p).drop (j+1):=by
  rw [List.drop_drop,List.drop_drop,drop_cons s (p+j) h]
  rfl
theorem drop_over (s:ByteArray) (p j:Nat) (h:¬ p+j < s.size):(s.data.toList.drop p).drop j=[]:=by
  rw [List.drop_drop,drop_none s (p+j) h]
theorem xp_wrong {w wr W:World} {x:Nat} {s:ByteArray} {p:Nat} {y:Int} (h:XR wr x s p 0) (ho:Only (fun k=>k=x) w wr) (hy:y≠0) (hW:Only (fun _=>False) (wr.setCell ⟨x,2,none⟩ (.int .i64 y)) W):XPost w W x s [] y :=
  ⟨p,(h.set2 y).kept hW (fun h=>h),fun e=>absurd e hy,(ho.trans (Only.setCell (S:=fun k=>k=x) wr ⟨x,2,none⟩ _ rfl) (fun _ _ h=>h)).trans hW (fun _ _ h=>h.elim)⟩
theorem xp_last {w wr W:World} {x:Nat} {s:ByteArray} {p q:Nat} {v:Int} {l:List UInt8} (h:XR wr x s p 0) (ho:Only (fun k=>k=x) w wr) (hv:(q:Int)=v) (hW:Only (fun _=>False) (wr.setCell ⟨x,1,none⟩ (.int .i64 v)) W) (hq:q≤s.size) (hl:s.data.toList.drop q=l):XPost w W x s l 0∧XR W x s q 0∧Only (fun k=>k=x) w W:=by
  subst hv
  have h1:=(h.set1 q).kept hW (fun h=>h)
  have h2:=(ho.trans (Only.setCell (S:=fun k=>k=x) wr ⟨x,1,none⟩ (.int .i64 (q:Int)) rfl) (fun _ _ h=>h)).trans hW (fun _ _ h=>h.elim)
  exact ⟨⟨q,h1,fun _=>⟨hq,hl⟩,h2⟩,h1,h2⟩
theorem x_step (k:Nat) (q d:Int) (hk:k≤8) (q0:0≤q) (q1:q < 128 ^ k) (d0:0≤d) (d1:d < 128):wrap64 (q+wrap64 (d % 128 * 128 ^ k))=q+d * 128 ^ k:=by
  have h:=(or_shift k q d hk q0 q1 d0 d1).2
  have h9:=pow_le9 k hk
  have e:d % 128=d:=by omega
  have hp:(0:Int)≤128 ^ k:=Int.pow_nonneg (by decide)
  have hd:0≤d * 128 ^ k:=Int.mul_nonneg d0 hp
  rw [e,w64_id (d * 128 ^ k) (by omega),w64_id _ (by omega)]
theorem x_unit (k:Nat) (hk:k≤7):wrap64 (128 * 128 ^ k)=128 ^ (k+1):=by
  have hc:k=0∨k=1∨k=2∨k=3∨k=4∨k=5∨k=6∨k=7:=by omega
  rcases hc with rfl | rfl | rfl | rfl | rfl | rfl | rfl | rfl <;> (rw [w64_id _ (by decide)]; decide)
theorem drews (w:World):Only (fun _=>False) w w.drew.drew:=(Only.drew _ w).trans (Only.drew _ _) (fun _ _ h=>h) (T:=fun _=>False)
set_option maxHeartbeats 1600000 in
theorem xnum_any (w:World) (x:Nat) (s:ByteArray) (p:Nat) (z:Int) (h:XR w x s p 0) (hp:p≤s.size) (hs:s.size≤maxLen - 100) :
    Calls Tryz.prog 62 #[.pointer (some ⟨x,0,none⟩),.int .i64 z] w fun e w'=>e=.returned (.int .i64 (rdN z (s.data.toList.drop p)).1)∧XPost w w' x s (rdN z (s.data.toList.drop p)).2.1 (rdN z (s.data.toList.drop p)).2.2:=by
  obtain ⟨N,hN⟩:=exq (rdN z (s.data.toList.drop p))
  obtain ⟨R,hR⟩:=exq (rd 0 0 (s.data.toList.drop p))
  have HN:=hide hN
  have HR:=hide hR
  rw [hN]
  clear hN hR
  unfold maxLen at hs
  obtain ⟨c0,c1,c2,f0,f1,f2,hl⟩:=h
  have HX0:Hid (XR w x s p 0):=⟨c0,c1,c2,f0,f1,f2,hl⟩
  go_enter Tryz.func62,Tryz.ntmps62
  go_wp2
  clear c0 c1 c2 f0 f1 f2 hl
  go_loopw [5,6,7,8] (fun n u k _ wr=>∃ (j:Nat) (q v:Int),k=.int .i64 ((j:Int)+1)∧n=.int .i64 q∧u=.int .i64 v∧j≤8∧0≤q∧Hid (q < 128 ^ j)∧Hid (v=128 ^ j)∧Hid (rd j q ((s.data.toList.drop p).drop j)=R)∧Hid (XR wr x s p 0)∧Hid (Only (fun k=>k=x) w wr))
    (fun _ _ k _ _=>(10 - intOf k).toNat)
  case atStart=>exact ⟨0,0,1,rfl,rfl,rfl,by omega,by omega,by unfold Hid; decide,by unfold Hid; rfl,HR,HX0,Only.refl _ _⟩
  case round=>
    obtain ⟨j,q,v,rfl,rfl,rfl,hj,q0,Hq,Hv,HD,HX,HO⟩:=hrel
    obtain ⟨c0,c1,c2,f0,f1,f2,hl⟩:=HX.out
    by_cases hlt:p+j < s.size
    · obtain ⟨m,hm⟩:∃ m:Nat,p+j=m:=⟨_,rfl⟩
      have hpj:(p:Int)+((j:Int)+1) - 1=(m:Int):=by omega
      have hml:m < s.size:=by omega
      have HM:=hide hm
      clear hm
      have hb:=s[m].toNat_lt
      have HD2:Hid (rd j q (s[m] :: (s.data.toList.drop p).drop (j+1))=R):=by
        unfold Hid
        have e:=drop_at s p j hlt
        have e2:s[p+j]=s[m]:=by simp [HM.out]
        rw [e2] at e
        rw [← e]; exact HD.out
      have hk1:(1:Int)≤(j:Int)+1:=by omega
      clear HD
      obtain ⟨d,hd⟩:∃ d:Int,(s[m].toNat:Int)=d:=⟨_,rfl⟩
      have hd0:0≤d:=by omega
      have hd1:d < 256:=by omega
      have HDD:=hide hd
      by_cases h1:d < 128
      · by_cases h2:d=0∧0 < j
        · have h2a:(d == 0)=true:=by simpa using h2.1
          have h2b:(1:Int) < (j:Int)+1:=by omega
          have HN2:Hid (N=(0,[],11)):=by
            unfold Hid
            have e:=rd_zero HD2.out (by omega) (by omega) h2.2
            rw [← HN.out,rdN_bad (HR.out.trans e) (by decide)]
          clear h2
          cases h9:((j:Int)+1 == 9)
          all_goals
            go_wp2
            go_region
            go_wp2
            go_region
            go_wp2_with fail
          all_goals refine (wrong_any _ x s p 0 11 (HX.out.drew.drew)).mono ?_
          all_goals rintro e w1 ⟨rfl,rfl⟩
          all_goals go_wp2
          all_goals go_ret
          all_goals
            rw [HN2.out]
            exact ⟨rfl,xp_wrong HX.out HO.out (by decide) (drews _)⟩
        · have HE:Hid (R=(q+(s[m].toNat:Int) * 128 ^ j,(j:Int)+1,0)):=rd_last HD2.out (by omega) (by omega)
          have hos:=or_shift j q d hj q0 Hq.out hd0 h1
          have h99:=pow_le9 j hj
          obtain ⟨n,hn⟩:∃ n:Int,wrap64 (q+wrap64 (d % 128 * v))=n:=⟨_,rfl⟩
          have hn2:n=q+d * 128 ^ j:=by rw [← hn,Hv.out]; exact x_step j q d hj q0 Hq.out hd0 h1
          have hn0:0≤n:=by omega
          have hrdl:rd 0 0 (s.data.toList.drop p)=(n,((j+1:Nat):Int),0):=by rw [HR.out,HE.out,hn2,hd]; rfl
          have hpk:p+(j+1)≤s.size:=by omega
          have HNS:Hid (max z 0 < n→N=(0,[],11)):=fun h=>by rw [← HN.out,rdN_big hrdl h]
          have HNL:Hid (¬ max z 0 < n→N=(n,(s.data.toList.drop p).drop (j+1),0)):=fun h=>by rw [← HN.out,rdN_ok hrdl h]
          have h3:(((j:Int)+1 == 9)=false∧(d == 0)=false)∨(((j:Int)+1 == 9)=true∧(d == 0)=false)∨(((j:Int)+1 == 9)=false∧(d == 0)=true∧¬ (1:Int) < (j:Int)+1):=by
            by_cases e:d=0
            · exact .inr (.inr ⟨by simp; omega,by simpa using e,by omega⟩)
            · by_cases e9:j=8
              · exact .inr (.inl ⟨by simp; omega,by simpa using e⟩)
              · exact .inl ⟨by simp; omega,by simpa using e⟩
          have HLD:Hid (∀ W,Only (fun _=>False) (wr.setCell ⟨x,1,none⟩ (.int .i64 ((p:Int)+((j:Int)+1)))) W→XPost w W x s ((s.data.toList.drop p).drop (j+1)) 0∧XR W x s (p+(j+1)) 0∧Only (fun k=>k=x) w W) :=
            fun W hW=>xp_last HX.out HO.out (by omega) hW hpk (by rw [List.drop_drop])
          clear hrdl hn2 hos h99 HE h2
          by_cases hz:z < 0
          · by_cases hbg:0 < n
            · have hN:=HNS.out (by omega)
              have HN2:=hide hN
              clear hN HNS HNL
              rcases h3 with ⟨h9,h5⟩ | ⟨h9,h5⟩ | ⟨h9,h5,h6⟩
              all_goals
                go_wp2
                go_region
                go_wp2
                go_region
                go_wp2_with fail
              all_goals refine (wrong_any _ x s (p+(j+1)) 0 11 (HLD.out _ (drews _)).2.1).mono ?_
              all_goals rintro e w1 ⟨rfl,rfl⟩
              all_goals go_wp2
              all_goals go_ret
              all_goals
                rw [HN2.out]
                exact ⟨rfl,xp_wrong (HLD.out _ (drews _)).2.1 (HLD.out _ (drews _)).2.2 (by decide) (Only.refl _ _)⟩
            · have hN:=HNL.out (by omega)
              have HN2:=hide hN
              clear hN HNS HNL
              rcases h3 with ⟨h9,h5⟩ | ⟨h9,h5⟩ | ⟨h9,h5,h6⟩
              all_goals
                go_wp2
                go_region
                go_wp2
                go_region
                go_wp2_with fail
              all_goals go_ret
              all_goals
                rw [HN2.out]
                exact ⟨ret_int hn,(HLD.out _ (drews _)).1⟩
          · by_cases hbg:z < n
            · have hN:=HNS.out (by omega)
              have HN2:=hide hN
              clear hN HNS HNL
              rcases h3 with ⟨h9,h5⟩ | ⟨h9,h5⟩ | ⟨h9,h5,h6⟩
              all_goals
                go_wp2
                go_region
                go_wp2
                go_region
                go_wp2_with fail
              all_goals refine (wrong_any _ x s (p+(j+1)) 0 11 (HLD.out _ (drews _)).2.1).mono ?_
              all_goals rintro e w1 ⟨rfl,rfl⟩
              all_goals go_wp2
              all_goals go_ret
              all_goals
                rw [HN2.out]
                exact ⟨rfl,xp_wrong (HLD.out _ (drews _)).2.1 (HLD.out _ (drews _)).2.2 (by decide) (Only.refl _ _)⟩
            · have hN:=HNL.out (by omega)
              have HN2:=hide hN
              clear hN HNS HNL
              rcases h3 with ⟨h9,h5⟩ | ⟨h9,h5⟩ | ⟨h9,h5,h6⟩
              all_goals
                go_wp2
                go_region
                go_wp2
                go_region
                go_wp2_with fail
              all_goals go_ret
              all_goals
                rw [HN2.out]
                exact ⟨ret_int hn,(HLD.out _ (drews _)).1⟩
      · have h5:(d == 0)=false:=by simp; omega
        by_cases h8:j=8
        · have h9:((j:Int)+1 == 9)=true:=by simp; omega
          have HN2:Hid (N=(0,[],11)):=by
            unfold Hid
            have e:=rd_nine HD2.out (by omega) h8
            rw [← HN.out,rdN_bad (HR.out.trans e) (by decide)]
          clear h8
          go_wp2
          go_region
          go_wp2
          go_region
          go_wp2_with fail
          refine (wrong_any _ x s p 0 11 (HX.out.drew.drew)).mono ?_
          rintro e w1 ⟨rfl,rfl⟩
          go_wp2
          go_ret
          rw [HN2.out]
          exact ⟨rfl,xp_wrong HX.out HO.out (by decide) (drews _)⟩
        · have h9:((j:Int)+1 == 9)=false:=by simp; omega
          have hos:=or_shift j q (d - 128) hj q0 Hq.out (by omega) (by omega)
          obtain ⟨n,hn⟩:∃ n:Int,wrap64 (q+wrap64 (d % 128 * v))=n:=⟨_,rfl⟩
          have hd8:d % 128=d - 128:=by omega
          have hn2:n=q+(d - 128) * 128 ^ j:=by rw [← hn,Hv.out,← x_step j q (d - 128) hj q0 Hq.out (by omega) (by omega),show (d - 128) % 128=d % 128 by omega]
          obtain ⟨v2,hv2⟩:∃ v2:Int,wrap64 (128 * v)=v2:=⟨_,rfl⟩
          have hv3:v2=128 ^ (j+1):=by
            rw [← hv2,Hv.out,← x_unit j (by omega)]
          have HRM:=hide (rd_more HD2.out (by omega) h8)
          have HQ2:Hid (0≤n∧n < 128 ^ (j+1)):=by unfold Hid; rw [hn2]; exact hos.2
          have HN3:=hide hn2
          have HV3:=hide hv3
          have HO3:Hid (Only (fun k=>k=x) w wr.drew.drew):=HO.out.trans (drews wr) (fun _ _ h=>h.elim)
          clear hn2 hv3 hos hd8
          go_wp2
          go_region
          go_wp2
          go_region
          go_wp2_with fail
          go_roundw
          case rel=>
            have hR2:rd (j+1) n ((s.data.toList.drop p).drop (j+1))=R:=by
              have e:=HRM.out
              rw [hd,← HN3.out] at e
              exact e
            exact ⟨j+1,n,v2,by go_num,by rw [hn],by rw [hv2],by omega,HQ2.out.1,HQ2.out.2,HV3,hR2,HX.out.drew.drew,HO3⟩
          case measure=>simp [intOf]; omega
    · have HN2:Hid (N=(0,[],10)):=by
        unfold Hid
        have e:=HD.out
        rw [drop_over s p j hlt] at e
        rw [← HN.out,rdN_bad (x:=10) (by rw [HR.out,← e]; rfl) (by decide)]
      go_wp2
      go_region
      go_wp2_with fail
      refine (wrong_any _ x s p 0 10 (HX.out.drew)).mono ?_
      rintro e w1 ⟨rfl,rfl⟩
      go_wp2
      go_ret
      rw [HN2.out]
      exact ⟨rfl,xp_wrong HX.out HO.out (by decide) (Only.drew _ _)⟩
end Go.Proofs.YtipkeeobmihogaaGreat
