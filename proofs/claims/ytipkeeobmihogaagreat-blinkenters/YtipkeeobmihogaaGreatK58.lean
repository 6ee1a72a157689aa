/- For any page, any number, any item and any new pages the statement BlinkEnters returns true: how many pages an item needs, which record lays it and what has to be told above is as the document says; no condition. -/
import Derived.Test.YtipkeeobmihogaaGreatK50
import Derived.Laws.OwnMore
import Derived.Test.YtipkeeobmihogaaGreatK49
import Derived.Test.YtipkeeobmihogaaGreatK53
import Derived.Test.YtipkeeobmihogaaGreatK54
import Derived.Test.YtipkeeobmihogaaGreatK55
import Derived.Test.YtipkeeobmihogaaGreatK56
set_option maxRecDepth 100000
namespace Go.Proofs.YtipkeeobmihogaaGreat
open Go.RowKit
def icells (l:List Int):List Value:=l.map (Value.int .i64)
theorem icells_one (l:List Int):∀ u ∈ icells l,u.oneCell'=true:=by
  intro u hu
  obtain ⟨s,_,rfl⟩:=List.mem_map.1 hu
  rfl
theorem Tryz.infoIntA:(Tryz.prog.info? 3).map (fun i=>(i.zero,i.size,i.bytes))=some (some (.int .i64 0),1,8):=by kernel_rfl
theorem Its.none_nil {w:World} {B:Nat} {l:List Int} (h:Its w B Option.none l):l=[]:=by
  cases l with
  | nil=>rfl
  | cons s t=>
    obtain ⟨o,e,_⟩:=h.at_ (by simp)
    cases e
structure Iw (w:World) (v:Value) (l:List Int):Prop where
  ex:∃ B ao cp,v=.slice ao l.length cp∧Its w B ao l∧l.length≤cp∧cp≤maxLen
theorem iown {w:World} {base:Nat} {v:Value} {l:List Int} (h:w.ownsRow base 3 1 v l.length (icells l)):Iw w v l:=by
  rcases h.2 with ⟨rfl,h0⟩ | ⟨g,cap,cur,rfl,hb,hg,hn,hm,_⟩
  · have e:l=[]:=List.eq_nil_of_length_eq_zero h0
    subst e
    exact ⟨0,Option.none,0,rfl,⟨fun h=>absurd h (by simp),fun h=>absurd h (by simp)⟩,Nat.le_refl _,Nat.zero_le _⟩
  · refine ⟨g,some ⟨g,0,Option.none⟩,cap,rfl,⟨fun _=>⟨0,rfl,fun j hj=>?_⟩,fun _=>(Array.getElem?_eq_some_iff.1 hg).1⟩,hn,hm⟩
    rw [Nat.zero_add,World.ownsRow.cellAt h j (by omega)]
    simp [icells,hj]
theorem append_its (w:World) (B cp:Nat) (ao:Option Addr) (m:List Int) (hm:Its (w.alloc (.cells #[] 3)) B ao m) (hf:ao=Option.none→cp=0) (hroom:m.length≤17592186044416) :
    ∃ v' w',(Builtin.append_ #[25,25] 25 #[.slice (some ⟨w.heap.size,0,Option.none⟩) 0 0,.slice ao m.length cp]).run Tryz.prog (w.alloc (.cells #[] 3))=.ok v' w'∧Iw w' v' m∧Only (fun _=>False) w w':=by
  obtain ⟨i0,hi,hz0,hz1,hz2⟩:=info_parts Tryz.infoIntA
  have h:(w.alloc (.cells #[] 3)).ownsRow w.heap.size 3 1 (.slice (some ⟨w.heap.size,0,Option.none⟩) 0 0) 0 []:=World.ownsRow_lit (size:=1) w #[] 0 (Nat.le_refl _) (by unfold maxLen; omega) rfl
  cases ao with
  | none=>
    have e:=hm.none_nil
    subst e
    have hc:=hf rfl
    subst hc
    exact ⟨.slice (some ⟨w.heap.size,0,Option.none⟩) 0 0,_,run_append_owned_none (P:=Tryz.prog) _ w.heap.size 25 25 3 i0 1 Tryz.underlying25 hi _ 0 [] h,iown (l:=[]) h,onlyA _ _⟩
  | some ad=>
    obtain ⟨v',w',hr,h2,h3,_,_⟩:=run_append_own_at (P:=Tryz.prog) (w.alloc (.cells #[] 3)) w.heap.size 25 25 3 i0 (.int .i64 0) 1 8 Tryz.underlying25 hi hz0 hz1 hz2 rfl (by decide) (.slice (some ⟨w.heap.size,0,Option.none⟩) 0 0) 0 [] h ad m.length cp (icells m) (by simp [icells])
      (fun j u hu=>by
        have hj:j < m.length:=by have:=(List.getElem?_eq_some_iff.1 hu).1; simpa [icells] using this
        obtain ⟨o,e,hc⟩:=hm.at_ (by omega)
        cases e
        rw [add_at,hc j hj,← hu]
        simp [icells,hj]) (icells_one m) (by unfold maxLen; omega) (by omega) (by simp)
    refine ⟨v',w',hr,?_,(onlyA w _).trans (Only.grown h3 (fun k hk=>hk)) (fun i hi e=>by have q:w.heap.size=i:=(by simpa [Value.ownBlock] using e); omega)⟩
    rw [List.nil_append,Nat.zero_add] at h2
    exact iown h2
def EnA (P:World→Br→Prop) (G:Int) (w w':World) (x:Ending):Prop:=(∃ r:Br,x=.returned (.tuple #[.agg r.cells,.int .i64 G])∧P w' r)∧Only (fun _=>False) w w'
theorem eqE_refl (e:En) (W:World):(binOp .eql 41 (.agg #[.string e.key,.int .i64 e.page,.int .i64 e.slot]) (.agg #[.string e.key,.int .i64 e.page,.int .i64 e.slot])).run Tryz.prog W=.ok (.bool true) W:=by
  rw [eqE_run e e W,decide_eq_true rfl]
set_option maxHeartbeats 3200000 in
theorem enters_walk (w:World) (a k v r page:Int) (h s:ByteArray) (ao:Option Addr) (n cp:Nat) (zs:List Int) (fb fc:Nat) (fa:Option Addr) (N E G:Int) (P:World→Br→Prop) (e:En) (c:Int) (is:Bool)
    (hP:∀ W W' r,Only (fun _=>False) W W'→P W r→P W' r)
    (hz:Its w fb fa zs) (hzl:zs.length≤17592186044416) (hzf:fa=none→fc=0)
    (hN1:∀ W,Only (fun _=>False) w W→Calls Tryz.prog 4 #[.agg #[.int .i64 a,.int .i64 k,.int .i64 v,.int .i64 r,.string h,.slice ao n cp],.int .i64 page,.string s] W fun x w'=>x=.returned (.tuple #[.int .i64 N,.int .i64 E])∧Only (fun _=>False) W w')
    (hN2:∀ W,Only (fun _=>False) w W→Calls Tryz.prog 5 #[.agg #[.int .i64 a,.int .i64 k,.int .i64 v,.int .i64 r,.string h,.slice ao n cp],.int .i64 page,.string s] W fun x w'=>x=.returned (.tuple #[.int .i64 N,.int .i64 E])∧Only (fun _=>False) W w')
    (hE1:∀ W fb fa fc,Only (fun _=>False) w W→Its W fb fa zs→zs.length≤fc→fc≤maxLen→Calls Tryz.prog 6 #[.agg #[.int .i64 a,.int .i64 k,.int .i64 v,.int .i64 r,.string h,.slice ao n cp],.int .i64 page,.string s,.slice fa zs.length fc] W fun x w'=>EnA P G W w' x)
    (hE2:∀ W,Only (fun _=>False) w W→Its W fb fa zs→Calls Tryz.prog 7 #[.agg #[.int .i64 a,.int .i64 k,.int .i64 v,.int .i64 r,.string h,.slice ao n cp],.int .i64 page,.string s,.slice fa zs.length fc] W fun x w'=>EnA P G W w' x)
    (hA1:∀ W r,P W r→Calls Tryz.prog 8 #[.agg r.cells] W fun x w'=>x=.returned (.tuple #[.agg #[.string e.key,.int .i64 e.page,.int .i64 e.slot],.int .i64 c,.bool is])∧Only (fun _=>False) W w')
    (hA2:∀ W r,P W r→Calls Tryz.prog 9 #[.agg r.cells] W fun x w'=>x=.returned (.tuple #[.agg #[.string e.key,.int .i64 e.page,.int .i64 e.slot],.int .i64 c,.bool is])∧Only (fun _=>False) W w')
    (hS:∀ W r r',P W r→P W r'→Calls Tryz.prog 10 #[.agg r.cells,.agg r'.cells] W fun x w'=>x=.returned (.bool true)∧Only (fun _=>False) W w') :
    Calls Tryz.prog 3 #[.agg #[.int .i64 a,.int .i64 k,.int .i64 v,.int .i64 r,.string h,.slice ao n cp],.int .i64 page,.agg #[.string s,.slice fa zs.length fc]] w fun x w'=>x=.returned (.bool true)∧Only (fun _=>False) w w':=by
  have HX:=hide ((Pag.new w (.int .i64 a) (.int .i64 k) (.int .i64 v) (.int .i64 r) (.string h) (.slice ao n cp)).more (onlyA _ (.cells #[.string s,.slice fa zs.length fc] 27)))
  have HI:=hide (Rg.new (w.alloc (.cells #[.int .i64 a,.int .i64 k,.int .i64 v,.int .i64 r,.string h,.slice ao n cp] 24)) #[.string s,.slice fa zs.length fc] 27)
  rw [World.size_alloc] at HI
  have HO:=hide (o2 (onlyA w (.cells #[.int .i64 a,.int .i64 k,.int .i64 v,.int .i64 r,.string h,.slice ao n cp] 24)) (onlyA _ (.cells #[.string s,.slice fa zs.length fc] 27)))
  have HZ:=hide (And.intro hz (And.intro hzl hzf))
  have HP:=hide hP
  have HN1:=hide hN1
  have HN2:=hide hN2
  have HE1:=hide hE1
  have HE2:=hide hE2
  have HA1:=hide hA1
  have HA2:=hide hA2
  have HS:=hide hS
  have HAW:=hide (fun W=>aawake_any W)
  have HQE:=hide (fun W=>eqE_refl e W)
  clear hP hz hzl hzf hN1 hN2 hE1 hE2 hA1 hA2 hS
  obtain ⟨m,hm⟩:=exq (zs.length)
  have HM:=hide hm
  rw [hm] at HI HO HX HE2 ⊢
  clear hm
  go_enter Tryz.func3,Tryz.ntmps3
  go_upto_region 1 with fail
  obtain ⟨W0,hW0⟩:=exq ((w.alloc (.cells #[.int .i64 a,.int .i64 k,.int .i64 v,.int .i64 r,.string h,.slice ao n cp] 24)).alloc (.cells #[.string s,.slice fa m fc] 27))
  rw [hW0] at HX HI HO ⊢
  clear hW0
  obtain ⟨p0,p1,p2,p3,p4,p5,_⟩:=HX.out
  have i0:=HI.out.cell 0 (.string s) rfl
  have i1:=HI.out.cell 1 (.slice fa m fc) rfl
  rw [Nat.add_zero] at i0
  rw [Nat.zero_add] at i1
  go_wp2_with fail
  refine (HN1.out _ HO.out).mono ?_
  rintro x w1 ⟨rfl,ho⟩
  have HX1:=hide (HX.out.more ho)
  have HO1:=hide (o2 HO.out ho)
  clear ho p0 p1 p2 p3 p4 p5 i0 i1 HX HI HN1 HO
  obtain ⟨p0,p1,p2,p3,p4,p5,_⟩:=HX1.out
  go_wp2_with fail
  refine (HN2.out _ HO1.out).mono ?_
  rintro x w2 ⟨rfl,ho⟩
  have HX2:=hide (HX1.out.more ho)
  have HO2:=hide (o2 HO1.out ho)
  clear ho p0 p1 p2 p3 p4 p5 HX1 HN2 HO1
  obtain ⟨v3,w3,hr3,hi3,ho3⟩:=append_its w2 fb fc fa zs (HZ.out.1.kept (o2 HO2.out (onlyA _ _)) (fun _ h=>h)) HZ.out.2.2 HZ.out.2.1
  obtain ⟨b3,a3,c3,rfl,hs3,hl3,hc3⟩:=hi3
  rw [HM.out] at hr3
  have HR3:=hide hr3
  have HX3:=hide (HX2.out.more ho3)
  have HO3:=hide (o2 HO2.out ho3)
  have HS3:=hide (And.intro hs3 (And.intro hl3 hc3))
  have HB0:Hid (w.heap.size < w2.heap.size):=HX2.out.lt
  clear hr3 ho3 hs3 hl3 hc3 HO2
  have he:=HE1.out w3 b3 a3 c3 HO3.out HS3.out.1 HS3.out.2.1 HS3.out.2.2
  rw [HM.out] at he
  have HEA:=hide he
  have HFZ:=hide (HZ.out.1.kept HO3.out (fun _ h=>h))
  clear he HE1 HS3
  go_upto_region 6 with (at_builtin; go_must (refine Lib.wpList_append_run _ rfl _ _ _ _ rfl _ _ rfl rfl _ _ HR3.out ?_))
  clear HR3 HX2
  obtain ⟨p0,p1,p2,p3,p4,p5,_⟩:=HX3.out
  go_wp2_with fail
  refine HEA.out.mono ?_
  rintro x w4 ⟨⟨r1,rfl,hp1⟩,ho4⟩
  have HX4:=hide (HX3.out.more ho4)
  have HO4:=hide (o2 HO3.out ho4)
  have HP4:=hide hp1
  have HF4:=hide (HFZ.out.kept ho4 (fun _ h=>h))
  have HR4:=hide (Rg.new w4 Br.none.cells 36)
  clear hp1 ho4 p0 p1 p2 p3 p4 p5 HX3 HO3 HEA HFZ
  go_upto_region 7 with (refine wpList_put_br rfl (.tmp 14) (.tmp 51) rfl w4.heap.size rfl Br.none.cl rfl r1 rfl HR4.out ?_; intro W5 HW5; go_frame)
  have HK5:Hid (Only (fun _=>False) w4 W5):=(onlyA w4 (.cells Br.none.cells 36)).trans HW5.out.only (fun i hi e=>by omega)
  have HX5:=hide (HX4.out.more HK5.out)
  have HO5:=hide (o2 HO4.out HK5.out)
  have HP5:=hide (HP.out _ _ _ HK5.out HP4.out)
  have HF5:=hide (HF4.out.kept HK5.out (fun _ h=>h))
  have HR5:=hide HW5.out.at_
  have HL5:Hid (w4.heap.size < W5.heap.size):=HW5.out.at_.lt
  obtain ⟨b5,hb5⟩:=exq (w4.heap.size)
  rw [hb5] at HR5 HL5 ⊢
  clear hb5 HW5 HK5 HX4 HO4 HP4 HF4 HR4
  have HEB:=hide (HE2.out W5 HO5.out HF5.out)
  clear HE2
  obtain ⟨p0,p1,p2,p3,p4,p5,_⟩:=HX5.out
  go_wp2_with fail
  refine HEB.out.mono ?_
  rintro x w6 ⟨⟨r2,rfl,hp2⟩,ho6⟩
  have HO6:=hide (o2 HO5.out ho6)
  have HP6:=hide (HP.out _ _ _ ho6 HP5.out)
  have HQ6:=hide hp2
  have HR6:=hide (HR5.out.more ho6)
  have HL6:Hid (b5 < w6.heap.size):=Nat.lt_of_lt_of_le HL5.out ho6.size
  have HS6:=hide (Rg.new w6 Br.none.cells 36)
  clear hp2 ho6 p0 p1 p2 p3 p4 p5 HX5 HO5 HEB HF5 HP5 HR5 HL5
  go_upto_region 8 with (refine wpList_put_br rfl (.tmp 16) (.tmp 59) rfl w6.heap.size rfl Br.none.cl rfl r2 rfl HS6.out ?_; intro W7 HW7; go_frame)
  have HK7:Hid (Only (fun _=>False) w6 W7):=(onlyA w6 (.cells Br.none.cells 36)).trans HW7.out.only (fun i hi e=>by omega)
  have HO7:=hide (o2 HO6.out HK7.out)
  have HP7:=hide (HP.out _ _ _ HK7.out HP6.out)
  have HQ7:=hide (HP.out _ _ _ HK7.out HQ6.out)
  have HR7:=hide (HR6.out.more HK7.out)
  have HS7:=hide HW7.out.at_
  obtain ⟨b7,hb7⟩:=exq (w6.heap.size)
  rw [hb7] at HS7 HL6 ⊢
  clear hb7 HW7 HK7 HO6 HP6 HQ6 HR6 HS6
  -- what is told above
  go_wp2_with (refine wpList_load_br rfl (.tmp 14) rfl b5 rfl r1 HR7.out ?_; go_frame)
  refine (HA1.out _ _ HP7.out).mono ?_
  rintro x w8 ⟨rfl,ho8⟩
  have HK8:=hide (o2 ho8 (onlyA w8 (.cells #[.string e.key,.int .i64 e.page,.int .i64 e.slot] 41)))
  have HV8:=hide (Ev.new w8 e)
  clear ho8 HA1
  go_upto_region 9 with fail
  obtain ⟨W8,hW8⟩:=exq (w8.alloc (.cells #[.string e.key,.int .i64 e.page,.int .i64 e.slot] 41))
  rw [hW8] at HK8 HV8 ⊢
  clear hW8
  obtain ⟨b8,hb8⟩:=exq (w8.heap.size)
  rw [hb8] at HV8 ⊢
  clear hb8
  have HO8:=hide (o2 HO7.out HK8.out)
  have HP8:=hide (HP.out _ _ _ HK8.out HP7.out)
  have HQ8:=hide (HP.out _ _ _ HK8.out HQ7.out)
  have HR8:=hide (HR7.out.more HK8.out)
  have HS8:=hide (HS7.out.more HK8.out)
  clear HK8 HO7 HP7 HQ7 HR7 HS7
  go_wp2_with (refine wpList_load_br rfl (.tmp 16) rfl b7 rfl r2 HS8.out ?_; go_frame)
  refine (HA2.out _ _ HQ8.out).mono ?_
  rintro x w9 ⟨rfl,ho9⟩
  have HK9:=hide (o2 ho9 (onlyA w9 (.cells #[.string e.key,.int .i64 e.page,.int .i64 e.slot] 41)))
  have HV9:=hide (Ev.new w9 e)
  clear ho9 HA2
  go_upto_region 10 with fail
  obtain ⟨W9,hW9⟩:=exq (w9.alloc (.cells #[.string e.key,.int .i64 e.page,.int .i64 e.slot] 41))
  rw [hW9] at HK9 HV9 ⊢
  clear hW9
  obtain ⟨b9,hb9⟩:=exq (w9.heap.size)
  rw [hb9] at HV9 ⊢
  clear hb9
  have HO9:=hide (o2 HO8.out HK9.out)
  have HP9:=hide (HP.out _ _ _ HK9.out HP8.out)
  have HQ9:=hide (HP.out _ _ _ HK9.out HQ8.out)
  have HR9:=hide (HR8.out.more HK9.out)
  have HS9:=hide (HS8.out.more HK9.out)
  have HV7:=hide (HV8.out.more HK9.out)
  have HSM:=hide (HS.out _ _ _ HP9.out HQ9.out)
  clear HK9 HO8 HP8 HQ8 HR8 HS8 HV8 HP9 HQ9 HS
  -- all of it
  go_wp2_with (first | (refine wpList_loadg_br rfl (.tmp 14) rfl b5 rfl r1 HR9.out ?_; go_frame) | (refine wpList_loadg_br rfl (.tmp 16) rfl b7 rfl r2 HS9.out ?_; go_frame))
  refine HSM.out.mono ?_
  rintro x w10 ⟨rfl,ho10⟩
  have HO10:=hide (o2 HO9.out ho10)
  obtain ⟨u0,u1,u2,_⟩:=HV7.out.more ho10
  obtain ⟨t0,t1,t2,_⟩:=HV9.out.more ho10
  have hqe:=HQE.out
  clear ho10
  go_wp2_with fail
  refine (HAW.out _).mono ?_
  rintro x w11 ⟨rfl,ho11⟩
  go_wp2_with fail
  go_ret
  exact ⟨rfl,o2 HO10.out ho11⟩
theorem im_of {W:World} {b o:Nat} {n:Int} {z:Pz} (h:Rg W b o (imc n z)) (hA:At W (fun _=>True) z) (hh:z.p.high.size≤140737488355328) (hl:z.p.lsn < 9223372036854775808):∃ D a c,ImAt W b o ⟨n,z.p⟩ D a c∧(0 < z.p.items.length→True):=by
  obtain ⟨⟨B,hs,_⟩,hf⟩:=hA
  exact ⟨B,z.ao,z.cp,⟨h.cell 0 _ rfl,h.cell 1 _ rfl,h.cell 2 _ rfl,h.cell 3 _ rfl,h.cell 4 _ rfl,h.cell 5 _ rfl,h.cell 6 _ rfl,hs,hf,hh,hl⟩,fun _=>trivial⟩
theorem ims_two {W:World} {b:Nat} {p q:Int} {z1 z2:Pz} (h:Rg W b 0 (imc p z1++imc q z2)) (h1:At W (fun _=>True) z1) (h2:At W (fun _=>True) z2)
    (s1:z1.p.high.size≤140737488355328) (s2:z2.p.high.size≤140737488355328) (l1:z1.p.lsn < 9223372036854775808) (l2:z2.p.lsn < 9223372036854775808):Ims W (fun _=>True) b (some ⟨b,0,none⟩) [⟨p,z1.p⟩,⟨q,z2.p⟩]:=by
  refine ⟨fun _=>⟨0,rfl,fun j hj=>?_⟩,fun _=>h.lt,by simp⟩
  match j,hj with
  | 0,_=>exact im_of (show Rg W b (0+0 * 7) (imc p z1) from Rg.part (c1:=[]) (c2:=imc p z1) (c3:=imc q z2) h) h1 s1 l1
  | 1,_=>exact im_of (show Rg W b (0+1 * 7) (imc q z2) from Rg.part (c1:=imc p z1) (c2:=imc q z2) (c3:=[]) (by rw [List.append_nil]; exact h)) h2 s2 l2
theorem ims_three {W:World} {b:Nat} {p q t:Int} {z1 z2 z3:Pz} (h:Rg W b 0 (imc p z1++imc q z2++imc t z3)) (h1:At W (fun _=>True) z1) (h2:At W (fun _=>True) z2) (h3:At W (fun _=>True) z3)
    (s1:z1.p.high.size≤140737488355328) (s2:z2.p.high.size≤140737488355328) (s3:z3.p.high.size≤140737488355328) (l1:z1.p.lsn < 9223372036854775808) (l2:z2.p.lsn < 9223372036854775808) (l3:z3.p.lsn < 9223372036854775808):Ims W (fun _=>True) b (some ⟨b,0,none⟩) [⟨p,z1.p⟩,⟨q,z2.p⟩,⟨t,z3.p⟩]:=by
  refine ⟨fun _=>⟨0,rfl,fun j hj=>?_⟩,fun _=>h.lt,by simp⟩
  match j,hj with
  | 0,_=>exact im_of (show Rg W b (0+0 * 7) (imc p z1) from Rg.part (c1:=[]) (c2:=imc p z1) (c3:=imc q z2++imc t z3) (by rw [List.nil_append,← List.append_assoc]; exact h)) h1 s1 l1
  | 1,_=>exact im_of (show Rg W b (0+1 * 7) (imc q z2) from Rg.part (c1:=imc p z1) (c2:=imc q z2) (c3:=imc t z3) h) h2 s2 l2
  | 2,_=>exact im_of (show Rg W b (0+2 * 7) (imc t z3) from Rg.part (c1:=imc p z1++imc q z2) (c2:=imc t z3) (c3:=[]) (by rw [List.append_nil]; exact h)) h3 s3 l3
theorem fit00:Fit none 0 0:=⟨fun _=>rfl,Nat.le_refl _,Nat.zero_le _⟩
theorem br_same (W:World) (k p:Int) (d:ByteArray) (ims:List Im) (T T':Nat→Prop) (b b':Nat) (ia ia':Option Addr) (ic ic':Nat) (hk:0≤k∧k≤255) (hd:d.size≤140737488355328) (h:Ims W T b ia ims) (h':Ims W T' b' ia' ims) :
    Calls Tryz.prog 10 #[.agg (Br.cells ⟨k,p,d,ia,ims.length,ic⟩),.agg (Br.cells ⟨k,p,d,ia',ims.length,ic'⟩)] W fun x w'=>x=.returned (.bool true)∧Only (fun _=>False) W w':=by
  have q:=zsame_eqs W ⟨0,0,0,k,0,p,0,0,0,0,d,[],[],ims,[],[]⟩ ⟨0,0,0,k,0,p,0,0,0,0,d,[],[],ims,[],[]⟩ ⟨none,none,ia,none,none,0,0,ic,0,0,0,0,b,0,0⟩ ⟨none,none,ia',none,none,0,0,ic',0,0,0,0,b',0,0⟩
    ⟨Zs.nil _ _ _,Zs.nil _ _ _,⟨T,h⟩,Prs.nil _ _ _,Prs.nil _ _ _,fit00,fit00,hd,hk⟩ ⟨Zs.nil _ _ _,Zs.nil _ _ _,⟨T',h'⟩,Prs.nil _ _ _,Prs.nil _ _ _,fit00,fit00,hd,hk⟩ rfl
  refine Calls.mono q ?_
  rintro x w' ⟨⟨c,rfl,hc⟩,ho⟩
  rw [hc.2 rfl]
  exact ⟨rfl,ho⟩
def P2 (p j:Int) (A B:Nd) (W:World) (r:Br):Prop :=
  ∃ b c ao1 cp1 ao2 cp2,r=⟨5,0,⟨#[]⟩,some ⟨b,0,none⟩,2,c⟩∧Rg W b 0 (imc p (A.z 0 ao1 cp1)++imc j (B.z 0 ao2 cp2))∧At W (fun _=>True) (A.z 0 ao1 cp1)∧At W (fun _=>True) (B.z 0 ao2 cp2)
def P3 (i j p:Int) (A B C:Nd) (W:World) (r:Br):Prop :=
  ∃ b c ao1 cp1 ao2 cp2 ao3 cp3,r=⟨5,0,⟨#[]⟩,some ⟨b,0,none⟩,3,c⟩∧Rg W b 0 (imc i (A.z 0 ao1 cp1)++imc j (B.z 0 ao2 cp2)++imc p (C.z 0 ao3 cp3))∧At W (fun _=>True) (A.z 0 ao1 cp1)∧At W (fun _=>True) (B.z 0 ao2 cp2)∧At W (fun _=>True) (C.z 0 ao3 cp3)
theorem walk_none (w:World) (a k v r page:Int) (h s:ByteArray) (ao:Option Addr) (n cp:Nat) (zs:List Int) (fb fc:Nat) (fa:Option Addr) (N E G k0 p0:Int) (d0:ByteArray) (hk:0≤k0∧k0≤4) (hd:d0.size≤140737488355328)
    (hz:Its w fb fa zs) (hzl:zs.length≤17592186044416) (hzf:fa=none→fc=0)
    (hN1:(∀ W,Only (fun _=>False) w W→Calls Tryz.prog 4 #[.agg #[.int .i64 a,.int .i64 k,.int .i64 v,.int .i64 r,.string h,.slice ao n cp],.int .i64 page,.string s] W fun x w'=>x=.returned (.tuple #[.int .i64 N,.int .i64 E])∧Only (fun _=>False) W w'))
    (hN2:(∀ W,Only (fun _=>False) w W→Calls Tryz.prog 5 #[.agg #[.int .i64 a,.int .i64 k,.int .i64 v,.int .i64 r,.string h,.slice ao n cp],.int .i64 page,.string s] W fun x w'=>x=.returned (.tuple #[.int .i64 N,.int .i64 E])∧Only (fun _=>False) W w'))
    (hE1:(∀ W fb fa fc,Only (fun _=>False) w W→Its W fb fa zs→zs.length≤fc→fc≤maxLen→Calls Tryz.prog 6 #[.agg #[.int .i64 a,.int .i64 k,.int .i64 v,.int .i64 r,.string h,.slice ao n cp],.int .i64 page,.string s,.slice fa zs.length fc] W fun x w'=>x=.returned (.tuple #[.agg (Br.cells ⟨k0,p0,d0,none,0,0⟩),.int .i64 G])∧Only (fun _=>False) W w'))
    (hE2:(∀ W,Only (fun _=>False) w W→Its W fb fa zs→Calls Tryz.prog 7 #[.agg #[.int .i64 a,.int .i64 k,.int .i64 v,.int .i64 r,.string h,.slice ao n cp],.int .i64 page,.string s,.slice fa zs.length fc] W fun x w'=>x=.returned (.tuple #[.agg (Br.cells ⟨k0,p0,d0,none,0,0⟩),.int .i64 G])∧Only (fun _=>False) W w')) :
    Calls Tryz.prog 3 #[.agg #[.int .i64 a,.int .i64 k,.int .i64 v,.int .i64 r,.string h,.slice ao n cp],.int .i64 page,.agg #[.string s,.slice fa zs.length fc]] w fun x w'=>x=.returned (.bool true)∧Only (fun _=>False) w w':=by
  refine enters_walk w a k v r page h s ao n cp zs fb fc fa N E G (fun _ q=>q=⟨k0,p0,d0,none,0,0⟩) noE 0 false (fun _ _ _ _ q=>q) hz hzl hzf hN1 hN2 ?_ ?_ ?_ ?_ ?_
  · intro W fb fa fc o z l1 l2
    exact (hE1 W fb fa fc o z l1 l2).mono (fun x w' q=>⟨⟨_,q.1,rfl⟩,q.2⟩)
  · intro W o z
    exact (hE2 W o z).mono (fun x w' q=>⟨⟨_,q.1,rfl⟩,q.2⟩)
  · rintro W _ rfl
    exact above_no W _ (.inl (by show ¬ k0=5; omega))
  · rintro W _ rfl
    exact rbabove_no W _ (.inl (by show ¬ k0=5; omega))
  · rintro W _ _ rfl rfl
    exact br_same W k0 p0 d0 [] (fun _=>True) (fun _=>True) 0 0 none none 0 0 ⟨hk.1,by omega⟩ hd (Ims.nil _ _ _ _) (Ims.nil _ _ _ _)
theorem walk_two (w:World) (a k v r page:Int) (h s:ByteArray) (ao:Option Addr) (n cp:Nat) (zs:List Int) (fb fc:Nat) (fa:Option Addr) (N E p j:Int) (A B:Nd) (e:En)
    (hz:Its w fb fa zs) (hzl:zs.length≤17592186044416) (hzf:fa=none→fc=0)
    (hA:(hiB A.hi).size≤140737488355328) (hB:(hiB B.hi).size≤140737488355328) (hAe:hiB A.hi=e.enc) (he:e.ok=true)
    (hN1:(∀ W,Only (fun _=>False) w W→Calls Tryz.prog 4 #[.agg #[.int .i64 a,.int .i64 k,.int .i64 v,.int .i64 r,.string h,.slice ao n cp],.int .i64 page,.string s] W fun x w'=>x=.returned (.tuple #[.int .i64 N,.int .i64 E])∧Only (fun _=>False) W w'))
    (hN2:(∀ W,Only (fun _=>False) w W→Calls Tryz.prog 5 #[.agg #[.int .i64 a,.int .i64 k,.int .i64 v,.int .i64 r,.string h,.slice ao n cp],.int .i64 page,.string s] W fun x w'=>x=.returned (.tuple #[.int .i64 N,.int .i64 E])∧Only (fun _=>False) W w'))
    (hE1:(∀ W fb fa fc,Only (fun _=>False) w W→Its W fb fa zs→zs.length≤fc→fc≤maxLen→Calls Tryz.prog 6 #[.agg #[.int .i64 a,.int .i64 k,.int .i64 v,.int .i64 r,.string h,.slice ao n cp],.int .i64 page,.string s,.slice fa zs.length fc] W fun x w'=>Ea2 W w' x p A B j))
    (hE2:(∀ W,Only (fun _=>False) w W→Its W fb fa zs→Calls Tryz.prog 7 #[.agg #[.int .i64 a,.int .i64 k,.int .i64 v,.int .i64 r,.string h,.slice ao n cp],.int .i64 page,.string s,.slice fa zs.length fc] W fun x w'=>Ea2 W w' x p A B j)) :
    Calls Tryz.prog 3 #[.agg #[.int .i64 a,.int .i64 k,.int .i64 v,.int .i64 r,.string h,.slice ao n cp],.int .i64 page,.agg #[.string s,.slice fa zs.length fc]] w fun x w'=>x=.returned (.bool true)∧Only (fun _=>False) w w':=by
  refine enters_walk w a k v r page h s ao n cp zs fb fc fa N E 0 (P2 p j A B) e j true ?_ hz hzl hzf hN1 hN2 ?_ ?_ ?_ ?_ ?_
  · rintro W W' r ho ⟨b,c,ao1,cp1,ao2,cp2,rfl,h1,h2,h3⟩
    exact ⟨b,c,ao1,cp1,ao2,cp2,rfl,h1.more ho,h2.more ho,h3.more ho⟩
  · intro W fb fa fc o z l1 l2
    refine (hE1 W fb fa fc o z l1 l2).mono ?_
    rintro x w' ⟨b,c,ao1,cp1,ao2,cp2,rfl,h1,h2,h3,ho⟩
    exact ⟨⟨_,rfl,b,c,ao1,cp1,ao2,cp2,rfl,h1,h2,h3⟩,ho⟩
  · intro W o z
    refine (hE2 W o z).mono ?_
    rintro x w' ⟨b,c,ao1,cp1,ao2,cp2,rfl,h1,h2,h3,ho⟩
    exact ⟨⟨_,rfl,b,c,ao1,cp1,ao2,cp2,rfl,h1,h2,h3⟩,ho⟩
  · rintro W _ ⟨b,c,ao1,cp1,ao2,cp2,rfl,h1,h2,h3⟩
    exact above_two W 0 ⟨#[]⟩ b c p j (A.z 0 ao1 cp1) (B.z 0 ao2 cp2) [] e (by rw [List.append_nil]; exact h1) hAe he
  · rintro W _ ⟨b,c,ao1,cp1,ao2,cp2,rfl,h1,h2,h3⟩
    exact rbabove_two W 0 ⟨#[]⟩ b c p j (A.z 0 ao1 cp1) (B.z 0 ao2 cp2) [] e (by rw [List.append_nil]; exact h1) hAe he
  · rintro W _ _ ⟨b,c,ao1,cp1,ao2,cp2,rfl,h1,h2,h3⟩ ⟨b',c',ao1',cp1',ao2',cp2',rfl,h1',h2',h3'⟩
    exact br_same W 5 0 ⟨#[]⟩ [⟨p,A.pg 0⟩,⟨j,B.pg 0⟩] (fun _=>True) (fun _=>True) b b' (some ⟨b,0,none⟩) (some ⟨b',0,none⟩) c c' (by decide) (by decide)
      (ims_two h1 h2 h3 hA hB (by show (0:Int) < _; decide) (by show (0:Int) < _; decide)) (ims_two h1' h2' h3' hA hB (by show (0:Int) < _; decide) (by show (0:Int) < _; decide))
theorem walk_three (w:World) (a k v r page:Int) (h s:ByteArray) (ao:Option Addr) (n cp:Nat) (zs:List Int) (fb fc:Nat) (fa:Option Addr) (N E i j p:Int) (A B C:Nd)
    (hz:Its w fb fa zs) (hzl:zs.length≤17592186044416) (hzf:fa=none→fc=0)
    (hA:(hiB A.hi).size≤140737488355328) (hB:(hiB B.hi).size≤140737488355328) (hC:(hiB C.hi).size≤140737488355328)
    (hN1:(∀ W,Only (fun _=>False) w W→Calls Tryz.prog 4 #[.agg #[.int .i64 a,.int .i64 k,.int .i64 v,.int .i64 r,.string h,.slice ao n cp],.int .i64 page,.string s] W fun x w'=>x=.returned (.tuple #[.int .i64 N,.int .i64 E])∧Only (fun _=>False) W w'))
    (hN2:(∀ W,Only (fun _=>False) w W→Calls Tryz.prog 5 #[.agg #[.int .i64 a,.int .i64 k,.int .i64 v,.int .i64 r,.string h,.slice ao n cp],.int .i64 page,.string s] W fun x w'=>x=.returned (.tuple #[.int .i64 N,.int .i64 E])∧Only (fun _=>False) W w'))
    (hE1:(∀ W fb fa fc,Only (fun _=>False) w W→Its W fb fa zs→zs.length≤fc→fc≤maxLen→Calls Tryz.prog 6 #[.agg #[.int .i64 a,.int .i64 k,.int .i64 v,.int .i64 r,.string h,.slice ao n cp],.int .i64 page,.string s,.slice fa zs.length fc] W fun x w'=>Ea3 W w' x A B C i j p))
    (hE2:(∀ W,Only (fun _=>False) w W→Its W fb fa zs→Calls Tryz.prog 7 #[.agg #[.int .i64 a,.int .i64 k,.int .i64 v,.int .i64 r,.string h,.slice ao n cp],.int .i64 page,.string s,.slice fa zs.length fc] W fun x w'=>Ea3 W w' x A B C i j p)) :
    Calls Tryz.prog 3 #[.agg #[.int .i64 a,.int .i64 k,.int .i64 v,.int .i64 r,.string h,.slice ao n cp],.int .i64 page,.agg #[.string s,.slice fa zs.length fc]] w fun x w'=>x=.returned (.bool true)∧Only (fun _=>False) w w':=by
  refine enters_walk w a k v r page h s ao n cp zs fb fc fa N E 0 (P3 i j p A B C) noE 0 false ?_ hz hzl hzf hN1 hN2 ?_ ?_ ?_ ?_ ?_
  · rintro W W' r ho ⟨b,c,ao1,cp1,ao2,cp2,ao3,cp3,rfl,h1,h2,h3,h4⟩
    exact ⟨b,c,ao1,cp1,ao2,cp2,ao3,cp3,rfl,h1.more ho,h2.more ho,h3.more ho,h4.more ho⟩
  · intro W fb fa fc o z l1 l2
    refine (hE1 W fb fa fc o z l1 l2).mono ?_
    rintro x w' ⟨b,c,ao1,cp1,ao2,cp2,ao3,cp3,rfl,h1,h2,h3,h4,ho⟩
    exact ⟨⟨_,rfl,b,c,ao1,cp1,ao2,cp2,ao3,cp3,rfl,h1,h2,h3,h4⟩,ho⟩
  · intro W o z
    refine (hE2 W o z).mono ?_
    rintro x w' ⟨b,c,ao1,cp1,ao2,cp2,ao3,cp3,rfl,h1,h2,h3,h4,ho⟩
    exact ⟨⟨_,rfl,b,c,ao1,cp1,ao2,cp2,ao3,cp3,rfl,h1,h2,h3,h4⟩,ho⟩
  · rintro W _ ⟨b,c,ao1,cp1,ao2,cp2,ao3,cp3,rfl,h1,h2,h3,h4⟩
    exact above_no W _ (.inr (by show ¬ ((3:Nat):Int)=2; decide))
  · rintro W _ ⟨b,c,ao1,cp1,ao2,cp2,ao3,cp3,rfl,h1,h2,h3,h4⟩
    exact rbabove_no W _ (.inr (by show ¬ ((3:Nat):Int)=2; decide))
  · rintro W _ _ ⟨b,c,ao1,cp1,ao2,cp2,ao3,cp3,rfl,h1,h2,h3,h4⟩ ⟨b',c',ao1',cp1',ao2',cp2',ao3',cp3',rfl,h1',h2',h3',h4'⟩
    exact br_same W 5 0 ⟨#[]⟩ [⟨i,A.pg 0⟩,⟨j,B.pg 0⟩,⟨p,C.pg 0⟩] (fun _=>True) (fun _=>True) b b' (some ⟨b,0,none⟩) (some ⟨b',0,none⟩) c c' (by decide) (by decide)
      (ims_three h1 h2 h3 h4 hA hB hC (by show (0:Int) < _; decide) (by show (0:Int) < _; decide) (by show (0:Int) < _; decide)) (ims_three h1' h2' h3' h4' hA hB hC (by show (0:Int) < _; decide) (by show (0:Int) < _; decide) (by show (0:Int) < _; decide))
set_option maxHeartbeats 1600000 in
theorem bneed_no (w:World) (a k v r page:Int) (h:ByteArray) (s:ByteArray) (B cp:Nat) (ao:Option Addr) (l:List ByteArray) (hS:Strs w B ao l) (hl:l.length≤8796093021952) (hh:h.size≤140737488355328) (ha:a < 9223372036854775808) (hb:ckB a k v r h l=false) :
    Calls Tryz.prog 4 #[.agg #[.int .i64 a,.int .i64 k,.int .i64 v,.int .i64 r,.string h,.slice ao l.length cp],.int .i64 page,.string s] w fun x w'=>x=.returned (.tuple #[.int .i64 0,.int .i64 140])∧Only (fun _=>False) w w':=by
  have HP:=hide (Pag.new w (.int .i64 a) (.int .i64 k) (.int .i64 v) (.int .i64 r) (.string h) (.slice ao l.length cp))
  have HO:=hide (onlyA w (.cells #[.int .i64 a,.int .i64 k,.int .i64 v,.int .i64 r,.string h,.slice ao l.length cp] 24))
  have hCK:=check_any _ a k v r h B cp ao l (hS.more HO.out) hl hh ha
  rw [hb] at hCK
  have HCK:Hid (Calls Tryz.prog 12 #[.agg #[.int .i64 a,.int .i64 k,.int .i64 v,.int .i64 r,.string h,.slice ao l.length cp]] _ fun x w'=>x=.returned (.int .i64 140)∧Only (fun _=>False) _ w'):=hCK
  obtain ⟨n,hn⟩:=exq (l.length)
  rw [hn] at HP HO HCK ⊢
  clear hn hCK hS hl hh ha hb
  go_enter Tryz.func4,Tryz.ntmps4
  go_upto_region 1 with fail
  obtain ⟨W0,hW0⟩:=exq (w.alloc (.cells #[.int .i64 a,.int .i64 k,.int .i64 v,.int .i64 r,.string h,.slice ao n cp] 24))
  rw [hW0] at HP HO HCK ⊢
  clear hW0
  obtain ⟨p0,p1,p2,p3,p4,p5,_⟩:=HP.out
  go_wp2_with fail
  refine HCK.out.mono ?_
  rintro x w1 ⟨rfl,ho⟩
  have HO1:=hide (o2 HO.out ho)
  clear ho p0 p1 p2 p3 p4 p5 HP HO HCK
  go_wp2_with fail
  go_ret2
  exact ⟨rfl,HO1.out⟩
set_option maxHeartbeats 3200000 in
theorem benter_no (w:World) (a k v r page:Int) (h:ByteArray) (s:ByteArray) (B cp:Nat) (ao:Option Addr) (l:List ByteArray) (hS:Strs w B ao l) (hl:l.length≤8796093021952) (hh:h.size≤140737488355328) (ha:a < 9223372036854775808) (hb:ckB a k v r h l=false) (m fc:Nat) (fa:Option Addr) :
    Calls Tryz.prog 6 #[.agg #[.int .i64 a,.int .i64 k,.int .i64 v,.int .i64 r,.string h,.slice ao l.length cp],.int .i64 page,.string s,.slice fa m fc] w fun x w'=>x=.returned (.tuple #[.agg Br.none.cells,.int .i64 140])∧Only (fun _=>False) w w':=by
  have HX:=hide (en_new w (.int .i64 a) (.int .i64 k) (.int .i64 v) (.int .i64 r) (.string h) (.slice ao l.length cp))
  have HND:Hid (∀ W,Only (fun _=>False) w W→Calls Tryz.prog 4 #[.agg #[.int .i64 a,.int .i64 k,.int .i64 v,.int .i64 r,.string h,.slice ao l.length cp],.int .i64 page,.string s] W fun x w'=>x=.returned (.tuple #[.int .i64 0,.int .i64 140])∧Only (fun _=>False) W w'):=fun W ho=>bneed_no W a k v r page h s B cp ao l (hS.more ho) hl hh ha hb
  obtain ⟨n,hn⟩:=exq (l.length)
  rw [hn] at HX HND ⊢
  clear hn hS hl hh ha hb
  go_enter Tryz.func6,Tryz.ntmps6
  go_upto_region 1 with fail
  obtain ⟨W0,hW0⟩:=exq ((w.alloc (.cells #[.int .i64 a,.int .i64 k,.int .i64 v,.int .i64 r,.string h,.slice ao n cp] 24)).alloc (.cells Br.none.cells 36))
  rw [hW0] at HX ⊢
  clear hW0
  obtain ⟨p0,p1,p2,p3,p4,p5,_⟩:=HX.out.1
  go_wp2_with fail
  refine (HND.out _ HX.out.2.2).mono ?_
  rintro x w1 ⟨rfl,ho⟩
  have HR1:=hide (HX.out.2.1.more ho)
  have HO1:=hide (o2 HX.out.2.2 ho)
  clear ho p0 p1 p2 p3 p4 p5 HX HND
  go_wp2_with (first | (refine wpList_build_bnone rfl rfl ?_; go_frame) | (refine wpList_put_br rfl (.tmp 8) (.tmp 23) rfl (w.heap.size+1) rfl Br.none.cl rfl Br.none rfl HR1.out ?_; intro W9 HW9; go_frame))
  refine bodyPost_ret (results_br rfl rfl HW9.out.at_) rfl ?_
  exact ⟨rfl,HO1.out.trans HW9.out.only (fun i hi e=>by omega)⟩
end Go.Proofs.YtipkeeobmihogaaGreat
namespace Go.Proofs.YtipkeeobmihogaaGreat
open Go.ChangeShapes Go.WideShapes Go.ChangeAt Go.RowKit Go.Deep
theorem Tryz.cellsBin:Tryz.prog.cellsOf 27=2:=by kernel_rfl
theorem open_bin {H:Type} {enc:TypeId × Value→H} {W:World} {base:Nat} {v:Value} {d:DataW H} {ps:List MemPlace} (hok:Value.okWide Tryz.prog W .any base 27 v) (h:DataW.Trod enc Tryz.prog W 0 (fun _=>true) true 27 v d ps)
    (hw:∀ m ∈ d.weights Tryz.prog 27,m≤reachBytes):∃ s B ao cp l,v=.agg #[.string s,.slice ao l.length cp]∧s.size≤140737488355328∧Its W B ao l∧l.length≤17592186044416∧(ao=none→cp=0):=by
  obtain ⟨cs,rfl,hs⟩:=okWide_struct Tryz.underlying27 hok
  obtain ⟨fuel,hf⟩:=h
  rw [Tryz.cellsBin] at hs
  obtain ⟨xs,n,_,hx,_,hlen,hfs⟩:=DataW.trod_struct Tryz.underlying27 hf
  obtain ⟨c0,c1,rfl⟩:∃ c0 c1,cs=#[c0,c1]:=by
    obtain ⟨l⟩:=cs
    match l,hs with
    | [c0,c1],_=>exact ⟨c0,c1,rfl⟩
  match xs,hlen with
  | [y0,y1],_=>
    simp only [Prod.mk.injEq] at hx
    have g0:=hfs 0 _ rfl
    have g1:=hfs 1 _ rfl
    simp [Value.cells,Tryz.cellsStr,Tryz.cellsInts] at g0 g1
    obtain ⟨h,e0,f0,_⟩:=DataW.trod_string Tryz.underlying9 g0
    simp at e0
    rw [hx.1] at hw
    simp only [DataW.weights,Tryz.underlying27] at hw
    have hw0:∀ m ∈ y0.1.weights Tryz.prog 9,m≤reachBytes:=fun m hm=>hw m (DataW.weights_mem_each (j:=0) (t:=9) (d:=y0.1) rfl rfl m hm)
    have hw1:∀ m ∈ y1.1.weights Tryz.prog 25,m≤reachBytes:=fun m hm=>hw m (DataW.weights_mem_each (j:=1) (t:=25) (d:=y1.1) rfl rfl m hm)
    obtain ⟨B,ao,cp,l,e1,hZ,hF⟩:=zs_of_trod g1 hw1
    have hwr:reachBytes=140737488351232:=by decide
    have hh:h.size≤140737488355328:=by
      rw [f0] at hw0
      have:=hw0 h.data.toList.length (by simp [DataW.weights])
      rw [show h.data.toList.length=h.size from bl_len _] at this
      omega
    exact ⟨h,B,ao,cp,l,by rw [e0,e1],hh,⟨hZ.at_,hZ.lt⟩,by have:=hZ.len; omega,hF.nil⟩
theorem sized_mem {H:Type} {ts:List TypeId} {ds:List (DataW H)} (h:(DataW.weightsEach Tryz.prog ts ds).all (·≤reachBytes)=true) {j:Nat} {t:TypeId} {d:DataW H} (ht:ts[j]?=some t) (hd:ds[j]?=some d):∀ n ∈ d.weights Tryz.prog t,n≤reachBytes:=by
  intro n hn
  have:=List.all_eq_true.1 h _ (DataW.weights_mem_each ht hd n hn)
  simpa using this
end Go.Proofs.YtipkeeobmihogaaGreat
namespace Go.Proofs.YtipkeeobmihogaaGreat
open Go.RowKit
set_option maxHeartbeats 6400000 in
theorem rbenter_sp1 (w:World) (a page:Int) (X:Nd) (s:ByteArray) (B cp:Nat) (ao:Option Addr) (hG:Gd X) (hS:Strs w B ao X.items) (ha:0≤a∧a < 9223372036854775808) (hF:Fit ao X.items.length cp) (hs:s.size≤140737488355328) (J:Int) (fb fc fo:Nat) (hZ:Ns w fb (some ⟨fb,fo,none⟩) [J]) (hN:X.need page (brd X.lv s)=(1,0)) (hc:RtP [J] 1) (hJ:okC J=false) (hn2:2≤X.ks.length) :
    Calls Tryz.prog 7 #[.agg #[.int .i64 a,.int .i64 3,.int .i64 X.lv,.int .i64 X.rt,.string (hiB X.hi),.slice ao X.items.length cp],.int .i64 page,.string s,.slice (some ⟨fb,fo,none⟩) 1 fc] w fun x w'=>x=.returned (.tuple #[.agg Br.none.cells,.int .i64 140])∧Only (fun _=>False) w w':=by
  have HX:=hide (en_new w (.int .i64 a) (.int .i64 3) (.int .i64 X.lv) (.int .i64 X.rt) (.string (hiB X.hi)) (.slice ao X.items.length cp))
  have HND:Hid (∀ W,Only (fun _=>False) w W→Calls Tryz.prog 5 #[.agg #[.int .i64 a,.int .i64 3,.int .i64 X.lv,.int .i64 X.rt,.string (hiB X.hi),.slice ao X.items.length cp],.int .i64 page,.string s] W fun x w'=>x=.returned (.tuple #[.int .i64 1,.int .i64 0])∧Only (fun _=>False) W w'):=fun W ho=>by
    have q:=rbneed_nd W a page X s B cp ao (hG.nm (hS.more ho)) ha hF hs
    rw [hN] at q
    exact q
  obtain ⟨fo',hfo',hfc⟩:=hZ.at_ (by simp)
  cases hfo'
  have HFC:Hid (w.cell? ⟨fb,fo+0,none⟩=some (.int .i64 J)):=hfc 0 (by simp)
  have HFB:Hid (fb < w.heap.size):=World.block_lt_of_cell? w _ HFC.out
  have HRT:Hid (∀ W,Only (fun _=>False) w W→Calls Tryz.prog 20 #[.slice (some ⟨fb,fo,none⟩) 1 fc,.int .i64 1] W fun x w'=>x=.returned (.bool true)∧Only (fun _=>False) W w'):=fun W ho=>by
    refine (rbright_any W fb fc (some ⟨fb,fo,none⟩) [J] 1 ⟨fun h0=>⟨fo,rfl,fun j hj=>(ho.cell (p:=⟨fb,fo+j,none⟩) HFB.out (fun h=>h)).trans (hfc j hj)⟩,hZ.len⟩ (fun h0=>Nat.lt_of_lt_of_le HFB.out ho.size)).mono ?_
    rintro x w' ⟨⟨b,rfl,hb⟩,o⟩
    rw [hb.2 hc]
    exact ⟨rfl,o⟩
  have HSP:Hid (∀ W,Only (fun _=>False) w W→Calls Tryz.prog 21 #[.agg #[.int .i64 0,.int .i64 3,.int .i64 X.lv,.int .i64 X.rt,.string (hiB X.hi),.slice ao X.items.length cp],.int .i64 J] W fun x w'=>x=.returned (.tuple #[.agg #[.int .i64 0,.int .i64 0,.int .i64 0,.int .i64 0,.string ⟨#[]⟩,.slice none 0 0],.agg #[.int .i64 0,.int .i64 0,.int .i64 0,.int .i64 0,.string ⟨#[]⟩,.slice none 0 0],.agg #[.string ⟨#[]⟩,.int .i64 0,.int .i64 0],.int .i64 140])∧Only (fun _=>False) W w'):=fun W ho=>fsplit_no W 0 X J B cp ao (hG.nm (hS.more ho)) ⟨by omega,by omega⟩ hJ hn2
  clear hG hS ha hF hs hZ hN hc hJ hn2 hfc
  obtain ⟨L,hL⟩:=exq ((X.lv:Int))
  obtain ⟨R,hR⟩:=exq ((X.rt:Int))
  obtain ⟨h,hh⟩:=exq (hiB X.hi)
  obtain ⟨n,hn⟩:=exq (X.items.length)
  rw [hL,hR,hh,hn] at HX HND HSP ⊢
  clear hL hR hh hn
  go_enter Tryz.func7,Tryz.ntmps7
  go_upto_region 1 with fail
  obtain ⟨W0,hW0⟩:=exq ((w.alloc (.cells #[.int .i64 a,.int .i64 3,.int .i64 L,.int .i64 R,.string h,.slice ao n cp] 24)).alloc (.cells Br.none.cells 36))
  rw [hW0] at HX ⊢
  clear hW0
  obtain ⟨p0,p1,p2,p3,p4,p5,_⟩:=HX.out.1
  go_wp2_with fail
  refine (HND.out _ HX.out.2.2).mono ?_
  rintro x w1 ⟨rfl,ho⟩
  have HP1:=hide (HX.out.1.more ho)
  have HR1:=hide (HX.out.2.1.more ho)
  have HO1:=hide (o2 HX.out.2.2 ho)
  clear ho p0 p1 p2 p3 p4 p5 HX HND
  go_wp2_with fail
  refine (HRT.out _ HO1.out).mono ?_
  rintro x w2 ⟨rfl,ho⟩
  have HP2:=hide (HP1.out.more ho)
  have HR2:=hide (HR1.out.more ho)
  have HO2:=hide (o2 HO1.out ho)
  clear ho HR1 HO1 HP1 HRT
  obtain ⟨p0,p1,p2,p3,p4,p5,g0,_⟩:=HP2.out
  go_upto_region 9 with fail
  have HOS:Hid (Only (fun k=>k=w.heap.size) w2 (w2.setCell ⟨w.heap.size,0,none⟩ (.int .i64 0))):=Only.setCell w2 ⟨w.heap.size,0,none⟩ _ rfl
  have HP3:=hide (HP2.out.s0 (.int .i64 0))
  have HR3:=hide (HR2.out.kept HOS.out (by omega))
  have HO3:=hide (HO2.out.trans HOS.out (fun i hi e=>by omega))
  obtain ⟨w3,hw3⟩:=exq (w2.setCell ⟨w.heap.size,0,none⟩ (.int .i64 0))
  rw [hw3] at HP3 HR3 HO3 ⊢
  clear hw3 p0 p1 p2 p3 p4 p5 g0 HP2 HR2 HO2 HOS
  have hf1:=(HO3.out.cell (p:=⟨fb,fo+0,none⟩) HFB.out (fun h=>h)).trans HFC.out
  rw [Nat.add_zero] at hf1
  obtain ⟨p0,p1,p2,p3,p4,p5,_⟩:=HP3.out
  go_wp2_with fail
  refine (HSP.out _ HO3.out).mono ?_
  rintro x w4 ⟨rfl,ho⟩
  have HOA:=hide (o2 (o2 (onlyA w4 (.cells #[.int .i64 0,.int .i64 0,.int .i64 0,.int .i64 0,.string ⟨#[]⟩,.slice none 0 0] 24)) (onlyA _ (.cells #[.int .i64 0,.int .i64 0,.int .i64 0,.int .i64 0,.string ⟨#[]⟩,.slice none 0 0] 24))) (onlyA _ (.cells #[.string ⟨#[]⟩,.int .i64 0,.int .i64 0] 41)))
  have HR4:=hide ((HR3.out.more ho).more HOA.out)
  have HO4:=hide (o2 (o2 HO3.out ho) HOA.out)
  clear ho p0 p1 p2 p3 p4 p5 hf1 HP3 HR3 HO3
  go_upto_region 11 with fail
  obtain ⟨w5,hw5⟩:=exq (((w4.alloc (.cells #[.int .i64 0,.int .i64 0,.int .i64 0,.int .i64 0,.string ⟨#[]⟩,.slice none 0 0] 24)).alloc (.cells #[.int .i64 0,.int .i64 0,.int .i64 0,.int .i64 0,.string ⟨#[]⟩,.slice none 0 0] 24)).alloc (.cells #[.string ⟨#[]⟩,.int .i64 0,.int .i64 0] 41))
  rw [hw5] at HR4 HO4 ⊢
  clear hw5 HOA
  go_wp2_with (first | (refine wpList_build_bnone rfl rfl ?_; go_frame) | (refine wpList_put_br rfl (.tmp 8) (.tmp 62) rfl (w.heap.size+1) rfl Br.none.cl rfl Br.none rfl HR4.out ?_; intro W9 HW9; go_frame))
  refine bodyPost_ret (results_br rfl rfl HW9.out.at_) rfl ?_
  exact ⟨rfl,HO4.out.trans HW9.out.only (fun i hi e=>by omega)⟩
set_option maxHeartbeats 6400000 in
theorem rbenter_sp2 (w:World) (a page:Int) (X:Nd) (s:ByteArray) (B cp:Nat) (ao:Option Addr) (hG:Gd X) (hS:Strs w B ao X.items) (ha:0≤a∧a < 9223372036854775808) (hF:Fit ao X.items.length cp) (hs:s.size≤140737488355328) (I J:Int) (fb fc fo:Nat) (hZ:Ns w fb (some ⟨fb,fo,none⟩) [I,J]) (hN:X.need page (brd X.lv s)=(2,0)) (hc:RtP [I,J] 2) (hJ:okC J=false) (hn2:2≤X.ks.length) :
    Calls Tryz.prog 7 #[.agg #[.int .i64 a,.int .i64 3,.int .i64 X.lv,.int .i64 X.rt,.string (hiB X.hi),.slice ao X.items.length cp],.int .i64 page,.string s,.slice (some ⟨fb,fo,none⟩) 2 fc] w fun x w'=>x=.returned (.tuple #[.agg Br.none.cells,.int .i64 140])∧Only (fun _=>False) w w':=by
  have HX:=hide (en_new w (.int .i64 a) (.int .i64 3) (.int .i64 X.lv) (.int .i64 X.rt) (.string (hiB X.hi)) (.slice ao X.items.length cp))
  have HND:Hid (∀ W,Only (fun _=>False) w W→Calls Tryz.prog 5 #[.agg #[.int .i64 a,.int .i64 3,.int .i64 X.lv,.int .i64 X.rt,.string (hiB X.hi),.slice ao X.items.length cp],.int .i64 page,.string s] W fun x w'=>x=.returned (.tuple #[.int .i64 2,.int .i64 0])∧Only (fun _=>False) W w'):=fun W ho=>by
    have q:=rbneed_nd W a page X s B cp ao (hG.nm (hS.more ho)) ha hF hs
    rw [hN] at q
    exact q
  obtain ⟨fo',hfo',hfc⟩:=hZ.at_ (by simp)
  cases hfo'
  have HFC:Hid (w.cell? ⟨fb,fo+1,none⟩=some (.int .i64 J)):=hfc 1 (by simp)
  have HFB:Hid (fb < w.heap.size):=World.block_lt_of_cell? w _ HFC.out
  have HRT:Hid (∀ W,Only (fun _=>False) w W→Calls Tryz.prog 20 #[.slice (some ⟨fb,fo,none⟩) 2 fc,.int .i64 2] W fun x w'=>x=.returned (.bool true)∧Only (fun _=>False) W w'):=fun W ho=>by
    refine (rbright_any W fb fc (some ⟨fb,fo,none⟩) [I,J] 2 ⟨fun h0=>⟨fo,rfl,fun j hj=>(ho.cell (p:=⟨fb,fo+j,none⟩) HFB.out (fun h=>h)).trans (hfc j hj)⟩,hZ.len⟩ (fun h0=>Nat.lt_of_lt_of_le HFB.out ho.size)).mono ?_
    rintro x w' ⟨⟨b,rfl,hb⟩,o⟩
    rw [hb.2 hc]
    exact ⟨rfl,o⟩
  have HSP:Hid (∀ W,Only (fun _=>False) w W→Calls Tryz.prog 21 #[.agg #[.int .i64 0,.int .i64 3,.int .i64 X.lv,.int .i64 X.rt,.string (hiB X.hi),.slice ao X.items.length cp],.int .i64 J] W fun x w'=>x=.returned (.tuple #[.agg #[.int .i64 0,.int .i64 0,.int .i64 0,.int .i64 0,.string ⟨#[]⟩,.slice none 0 0],.agg #[.int .i64 0,.int .i64 0,.int .i64 0,.int .i64 0,.string ⟨#[]⟩,.slice none 0 0],.agg #[.string ⟨#[]⟩,.int .i64 0,.int .i64 0],.int .i64 140])∧Only (fun _=>False) W w'):=fun W ho=>fsplit_no W 0 X J B cp ao (hG.nm (hS.more ho)) ⟨by omega,by omega⟩ hJ hn2
  clear hG hS ha hF hs hZ hN hc hJ hn2 hfc
  obtain ⟨L,hL⟩:=exq ((X.lv:Int))
  obtain ⟨R,hR⟩:=exq ((X.rt:Int))
  obtain ⟨h,hh⟩:=exq (hiB X.hi)
  obtain ⟨n,hn⟩:=exq (X.items.length)
  rw [hL,hR,hh,hn] at HX HND HSP ⊢
  clear hL hR hh hn
  go_enter Tryz.func7,Tryz.ntmps7
  go_upto_region 1 with fail
  obtain ⟨W0,hW0⟩:=exq ((w.alloc (.cells #[.int .i64 a,.int .i64 3,.int .i64 L,.int .i64 R,.string h,.slice ao n cp] 24)).alloc (.cells Br.none.cells 36))
  rw [hW0] at HX ⊢
  clear hW0
  obtain ⟨p0,p1,p2,p3,p4,p5,_⟩:=HX.out.1
  go_wp2_with fail
  refine (HND.out _ HX.out.2.2).mono ?_
  rintro x w1 ⟨rfl,ho⟩
  have HP1:=hide (HX.out.1.more ho)
  have HR1:=hide (HX.out.2.1.more ho)
  have HO1:=hide (o2 HX.out.2.2 ho)
  clear ho p0 p1 p2 p3 p4 p5 HX HND
  go_wp2_with fail
  refine (HRT.out _ HO1.out).mono ?_
  rintro x w2 ⟨rfl,ho⟩
  have HP2:=hide (HP1.out.more ho)
  have HR2:=hide (HR1.out.more ho)
  have HO2:=hide (o2 HO1.out ho)
  clear ho HR1 HO1 HP1 HRT
  obtain ⟨p0,p1,p2,p3,p4,p5,g0,_⟩:=HP2.out
  go_upto_region 9 with fail
  have HOS:Hid (Only (fun k=>k=w.heap.size) w2 (w2.setCell ⟨w.heap.size,0,none⟩ (.int .i64 0))):=Only.setCell w2 ⟨w.heap.size,0,none⟩ _ rfl
  have HP3:=hide (HP2.out.s0 (.int .i64 0))
  have HR3:=hide (HR2.out.kept HOS.out (by omega))
  have HO3:=hide (HO2.out.trans HOS.out (fun i hi e=>by omega))
  obtain ⟨w3,hw3⟩:=exq (w2.setCell ⟨w.heap.size,0,none⟩ (.int .i64 0))
  rw [hw3] at HP3 HR3 HO3 ⊢
  clear hw3 p0 p1 p2 p3 p4 p5 g0 HP2 HR2 HO2 HOS
  have hf1:=(HO3.out.cell (p:=⟨fb,fo+1,none⟩) HFB.out (fun h=>h)).trans HFC.out
  obtain ⟨p0,p1,p2,p3,p4,p5,_⟩:=HP3.out
  go_wp2_with fail
  refine (HSP.out _ HO3.out).mono ?_
  rintro x w4 ⟨rfl,ho⟩
  have HOA:=hide (o2 (o2 (onlyA w4 (.cells #[.int .i64 0,.int .i64 0,.int .i64 0,.int .i64 0,.string ⟨#[]⟩,.slice none 0 0] 24)) (onlyA _ (.cells #[.int .i64 0,.int .i64 0,.int .i64 0,.int .i64 0,.string ⟨#[]⟩,.slice none 0 0] 24))) (onlyA _ (.cells #[.string ⟨#[]⟩,.int .i64 0,.int .i64 0] 41)))
  have HR4:=hide ((HR3.out.more ho).more HOA.out)
  have HO4:=hide (o2 (o2 HO3.out ho) HOA.out)
  clear ho p0 p1 p2 p3 p4 p5 hf1 HP3 HR3 HO3
  go_upto_region 11 with fail
  obtain ⟨w5,hw5⟩:=exq (((w4.alloc (.cells #[.int .i64 0,.int .i64 0,.int .i64 0,.int .i64 0,.string ⟨#[]⟩,.slice none 0 0] 24)).alloc (.cells #[.int .i64 0,.int .i64 0,.int .i64 0,.int .i64 0,.string ⟨#[]⟩,.slice none 0 0] 24)).alloc (.cells #[.string ⟨#[]⟩,.int .i64 0,.int .i64 0] 41))
  rw [hw5] at HR4 HO4 ⊢
  clear hw5 HOA
  go_wp2_with (first | (refine wpList_build_bnone rfl rfl ?_; go_frame) | (refine wpList_put_br rfl (.tmp 8) (.tmp 62) rfl (w.heap.size+1) rfl Br.none.cl rfl Br.none rfl HR4.out ?_; intro W9 HW9; go_frame))
  refine bodyPost_ret (results_br rfl rfl HW9.out.at_) rfl ?_
  exact ⟨rfl,HO4.out.trans HW9.out.only (fun i hi e=>by omega)⟩
end Go.Proofs.YtipkeeobmihogaaGreat
namespace Go.Proofs.YtipkeeobmihogaaGreat
open Go.RowKit
theorem Its.ns {w:World} {B:Nat} {ao:Option Addr} {l:List Int} (h:Its w B ao l) (hl:l.length≤17592186044416):Ns w B ao l:=⟨h.at_,by omega⟩
theorem two_le {zs:List Int} {N:Int} (hl:(zs.length:Int)=N) (h2:N≤2):zs=[]∨(∃ I,zs=[I])∨∃ I J,zs=[I,J]:=by
  match zs,hl with
  | [],_=>exact .inl rfl
  | [I],_=>exact .inr (.inl ⟨I,rfl⟩)
  | [I,J],_=>exact .inr (.inr ⟨I,J,rfl⟩)
  | _ :: _ :: _ :: t,h=>simp at h; omega
theorem frs_rtp {zs:List Int} {N:Int} (hl:(zs.length:Int)=N) (h2:N≤2):frs zs=true ↔ RtP zs N:=by
  unfold frs RtP
  rw [decide_eq_true_iff]
  rcases two_le hl h2 with rfl | ⟨I,rfl⟩ | ⟨I,J,rfl⟩
  · exact ⟨fun _=>⟨hl,fun j h=>absurd h (by simp),fun j h=>absurd h (by simp)⟩,fun _ k h=>absurd h (by simp)⟩
  · refine ⟨fun q=>⟨hl,fun j h=>(q j h).1,fun j h=>absurd h (by simp)⟩,fun q k h=>⟨q.2.1 k h,?_⟩⟩
    match k,h with
    | 0,_=>simp
  · refine ⟨fun q=>⟨hl,fun j h=>(q j h).1,fun j h=>?_⟩,fun q k h=>⟨q.2.1 k h,?_⟩⟩
    · match j,h with
      | 0,_=>
        have:=(q 1 (by simp)).2
        simpa using this
    · match k,h with
      | 0,_=>simp
      | 1,_=>
        have:=q.2.2 0 (by simp)
        simpa using this
theorem Nd.need_le {X:Nd} {page N:Int} {o:Option (En × Int)} (h:X.need page o=(N,0)):N≤2:=by
  by_cases h0:N=0
  · omega
  · obtain ⟨e,k,_,_,_,_,hN⟩:=X.need_more h h0
    rw [hN]
    split <;> omega
theorem hiB_okA {f:En} (h:f.ok=true):hiB f=f.enc:=by
  unfold hiB
  rw [if_neg]
  rintro rfl
  exact absurd h (by decide)
set_option maxHeartbeats 3200000 in
theorem enters_law (w:World) (a k v r page:Int) (h s:ByteArray) (B cp:Nat) (ao:Option Addr) (l:List ByteArray) (zs:List Int) (fb fc:Nat) (fa:Option Addr)
    (hS:Strs w B ao l) (hF:Fit ao l.length cp) (hl:l.length≤8796093021952) (hh:h.size≤140737488355328) (ha:a < 9223372036854775808) (hs:s.size≤140737488355328)
    (hz:Its w fb fa zs) (hzl:zs.length≤17592186044416) (hzf:fa=none→fc=0) :
    Calls Tryz.prog 3 #[.agg #[.int .i64 a,.int .i64 k,.int .i64 v,.int .i64 r,.string h,.slice ao l.length cp],.int .i64 page,.agg #[.string s,.slice fa zs.length fc]] w fun x w'=>x=.returned (.bool true)∧Only (fun _=>False) w w':=by
  cases hb:ckB a k v r h l with
  | false=>
    exact walk_none w a k v r page h s ao l.length cp zs fb fc fa 0 140 140 0 0 ⟨#[]⟩ (by decide) (by decide) hz hzl hzf
      (fun W o=>bneed_no W a k v r page h s B cp ao l (hS.more o) hl hh ha hb)
      (fun W o=>rbneed_no W a k v r page h s B cp ao l (hS.more o) hh ha hb)
      (fun W fb fa fc o z l1 l2=>benter_no W a k v r page h s B cp ao l (hS.more o) hl hh ha hb zs.length fc fa)
      (fun W o z=>rbenter_no W a k v r page h s B cp ao l (hS.more o) hh ha hb zs.length fc fa)
  | true=>
    obtain ⟨ha0,X,hG,rfl,rfl,rfl,rfl,rfl⟩:=ckB_node hb
    obtain ⟨N,hN⟩:=exq ((X.need page (brd X.lv s)).1)
    obtain ⟨E,hE⟩:=exq ((X.need page (brd X.lv s)).2)
    have hNE:X.need page (brd X.lv s)=(N,E):=by rw [← hN,← hE]
    clear hb
    have hN1:∀ W,Only (fun _=>False) w W→Calls Tryz.prog 4 #[.agg #[.int .i64 a,.int .i64 3,.int .i64 X.lv,.int .i64 X.rt,.string (hiB X.hi),.slice ao X.items.length cp],.int .i64 page,.string s] W fun x w'=>x=.returned (.tuple #[.int .i64 N,.int .i64 E])∧Only (fun _=>False) W w':=fun W o=>by
      have q:=need_nd W a page X s B cp ao (hG.nm (hS.more o)) hF ⟨ha0,ha⟩
      rw [hNE] at q
      exact q
    have hN2:∀ W,Only (fun _=>False) w W→Calls Tryz.prog 5 #[.agg #[.int .i64 a,.int .i64 3,.int .i64 X.lv,.int .i64 X.rt,.string (hiB X.hi),.slice ao X.items.length cp],.int .i64 page,.string s] W fun x w'=>x=.returned (.tuple #[.int .i64 N,.int .i64 E])∧Only (fun _=>False) W w':=fun W o=>by
      have q:=rbneed_nd W a page X s B cp ao (hG.nm (hS.more o)) ⟨ha0,ha⟩ hF hs
      rw [hNE] at q
      exact q
    clear hN hE
    by_cases hE0:E=0
    case neg=>
      exact walk_none w a 3 X.lv X.rt page (hiB X.hi) s ao X.items.length cp zs fb fc fa N E E 0 0 ⟨#[]⟩ (by decide) (by decide) hz hzl hzf hN1 hN2
        (fun W fb fa fc o z l1 l2=>enter_err W a page X s B cp ao zs fc fa hG (hS.more o) hF ⟨ha0,ha⟩ N E hNE hE0)
        (fun W o z=>rbenter_bad W a page X s B cp ao (hG.nm (hS.more o)) ⟨ha0,ha⟩ hF hs zs.length fc fa N E hNE hE0)
    subst hE0
    have h2:=X.need_le hNE
    by_cases hR:RtP zs N
    case neg=>
      have hA:¬ (zs.length:Int)=N∨frs zs=false:=by
        by_cases q:(zs.length:Int)=N
        · right
          cases hf:frs zs with
          | false=>rfl
          | true=>exact absurd ((frs_rtp q h2).1 hf) hR
        · exact .inl q
      exact walk_none w a 3 X.lv X.rt page (hiB X.hi) s ao X.items.length cp zs fb fc fa N 0 1 0 0 ⟨#[]⟩ (by decide) (by decide) hz hzl hzf hN1 hN2
        (fun W fb fa fc o z l1 l2=>enter_arg W a page X s B cp ao zs fb fc fa hG (hS.more o) hF ⟨ha0,ha⟩ (z.ns hzl) l1 l2 N hNE hA)
        (fun W o z=>(rbenter_few W a page X s B cp ao (hG.nm (hS.more o)) ⟨ha0,ha⟩ hF hs zs fb fc fa (z.ns hzl) z.lt N hNE (.inl hR)).mono (fun x w' q=>⟨q.1.1 hR,q.2⟩))
    have hfr:=(frs_rtp hR.1 h2).2 hR
    by_cases h0:N=0
    case pos=>
      subst h0
      have hzs:zs=[]:=List.eq_nil_of_length_eq_zero (by have:=hR.1; omega)
      exact walk_none w a 3 X.lv X.rt page (hiB X.hi) s ao X.items.length cp zs fb fc fa 0 0 0 3 page s (by decide) hs hz hzl hzf hN1 hN2
        (fun W fb fa fc o z l1 l2=>enter_in W a page X s B cp ao zs fb fc fa hG (hS.more o) hF ⟨ha0,ha⟩ (z.ns hzl) l1 l2 hNE hzs)
        (fun W o z=>(rbenter_few W a page X s B cp ao (hG.nm (hS.more o)) ⟨ha0,ha⟩ hF hs zs fb fc fa (z.ns hzl) z.lt 0 hNE (.inr rfl)).mono (fun x w' q=>⟨q.1.2 hR,q.2⟩))
    obtain ⟨e,c,hsb,_,hbad,hf,hNp⟩:=X.need_more hNE h0
    obtain ⟨lo,hok⟩:=hG.ok
    have hc9:0 < X.lv→okC c=true:=fun v=>by
      unfold brd at hsb
      rw [if_neg (by omega)] at hsb
      exact (decS_some hsb).2.1
    have hn2:2≤X.ks.length:=by have:=(hok.two hG.kok hbad hc9 hf).1; omega
    have hbo:=(hok.bord hn2).1
    have hbe:=hiB_okA hbo
    have hbz:X.bord.enc.size≤140737488355328:=by have:=enc_size hbo; omega
    have hXz:(hiB X.hi).size≤140737488355328:=hh
    have hlA:∀ j,(hiB (X.nl e c j).hi).size≤140737488355328:=fun j=>by rw [nl_hi,hbe]; exact hbz
    have hrB:(hiB (X.nr e c).hi).size≤140737488355328:=by
      have:(X.nr e c).hi=X.hi:=by unfold Nd.nr; split <;> rfl
      rw [this]; exact hXz
    have hoC:∀ i j,(hiB (X.over i j).hi).size≤140737488355328:=fun i j=>by
      have:(X.over i j).hi=noE:=rfl
      rw [this]; decide
    by_cases hp:page=1
    case neg=>
      rw [if_neg hp] at hNp
      subst hNp
      obtain ⟨J,rfl⟩:∃ J,zs=[J]:=by
        rcases two_le hR.1 h2 with rfl | q | ⟨I,J,rfl⟩
        · exact absurd hR.1 (by decide)
        · exact q
        · exact absurd hR.1 (by simp)
      cases hJ:okC J with
      | false=>
        refine walk_none w a 3 X.lv X.rt page (hiB X.hi) s ao X.items.length cp [J] fb fc fa 1 0 140 0 0 ⟨#[]⟩ (by decide) (by decide) hz hzl hzf hN1 hN2 ?_ ?_
        · intro W fb fa fc o z l1 l2
          obtain ⟨fo,rfl,hcell⟩:=z.at_ (by simp)
          have hc0:=hcell 0 (by simp)
          exact enter_sp W a page X s B cp ao [J] fb fc _ hG (hS.more o) hF ⟨ha0,ha⟩ (z.ns hzl) l1 l2 1 hNE h0 hR.1 hfr
            (fun W' o'=>bsplit_no1 W' a page X J B cp fb fo fc ao (hG.nm ((hS.more o).more o')) hJ hn2 ((o'.cell (p:=⟨fb,fo,none⟩) (z.lt (by simp)) (fun q=>q)).trans hc0))
        · intro W o z
          obtain ⟨fo,rfl,hcell⟩:=z.at_ (by simp)
          exact rbenter_sp1 W a page X s B cp ao hG (hS.more o) ⟨ha0,ha⟩ hF hs J fb fc fo (z.ns hzl) hNE hR hJ hn2
      | true=>
        obtain ⟨j,rfl⟩:∃ j:Nat,J=(j:Int):=⟨J.toNat,by have:=okC_iff.1 hJ; omega⟩
        refine walk_two w a 3 X.lv X.rt page (hiB X.hi) s ao X.items.length cp [(j:Int)] fb fc fa 1 0 page j (X.nl e c j) (X.nr e c) X.bord hz hzl hzf (hlA j) hrB (by rw [nl_hi,hbe]) hbo hN1 hN2 ?_ ?_
        · intro W fb fa fc o z l1 l2
          exact (enter_one W a page X s B cp ao [(j:Int)] fb fc fa hG (hS.more o) hF ⟨ha0,ha⟩ (z.ns hzl) l1 l2 j e c hNE rfl hJ hfr hsb hbad hf).mono (fun x w' q=>q.ea)
        · intro W o z
          obtain ⟨fo,rfl,hcell⟩:=z.at_ (by simp)
          cases hy:byd X.bord e with
          | false=>exact rbenter_one_false W a page X s B cp ao hG (hS.more o) ⟨ha0,ha⟩ hF hs j fb fc fo (z.ns hzl) hNE hR e c hsb hbad hf hJ hy
          | true=>exact rbenter_one_true W a page X s B cp ao hG (hS.more o) ⟨ha0,ha⟩ hF hs j fb fc fo (z.ns hzl) hNE hR e c hsb hbad hf hJ hy
    case pos=>
      rw [if_pos hp] at hNp
      subst hNp
      obtain ⟨I,J,rfl⟩:∃ I J,zs=[I,J]:=by
        rcases two_le hR.1 h2 with rfl | ⟨I,rfl⟩ | q
        · exact absurd hR.1 (by decide)
        · exact absurd hR.1 (by simp)
        · exact q
      cases hJ:okC J with
      | false=>
        refine walk_none w a 3 X.lv X.rt page (hiB X.hi) s ao X.items.length cp [I,J] fb fc fa 2 0 140 0 0 ⟨#[]⟩ (by decide) (by decide) hz hzl hzf hN1 hN2 ?_ ?_
        · intro W fb fa fc o z l1 l2
          obtain ⟨fo,rfl,hcell⟩:=z.at_ (by simp)
          have hc1:=hcell 1 (by simp)
          exact enter_sp W a page X s B cp ao [I,J] fb fc _ hG (hS.more o) hF ⟨ha0,ha⟩ (z.ns hzl) l1 l2 2 hNE h0 hR.1 hfr
            (fun W' o'=>bsplit_no2 W' a page X J B cp fb fo fc ao (hG.nm ((hS.more o).more o')) hJ hn2 ((o'.cell (p:=⟨fb,fo+1,none⟩) (z.lt (by simp)) (fun q=>q)).trans hc1))
        · intro W o z
          obtain ⟨fo,rfl,hcell⟩:=z.at_ (by simp)
          exact rbenter_sp2 W a page X s B cp ao hG (hS.more o) ⟨ha0,ha⟩ hF hs I J fb fc fo (z.ns hzl) hNE hR hJ hn2
      | true=>
        by_cases hv:X.lv+1≤255∧okC I=true
        case neg=>
          have hv':255 < (X.lv:Int)+1∨((X.lv:Int)+1≤255∧okC I=false):=by
            by_cases q:X.lv+1≤255
            · refine .inr ⟨by omega,?_⟩
              cases hI:okC I with
              | false=>rfl
              | true=>exact absurd ⟨q,hI⟩ hv
            · exact .inl (by omega)
          obtain ⟨j,rfl⟩:∃ j:Nat,J=(j:Int):=⟨J.toNat,by have:=okC_iff.1 hJ; omega⟩
          refine walk_none w a 3 X.lv X.rt page (hiB X.hi) s ao X.items.length cp [I,(j:Int)] fb fc fa 2 0 140 0 0 ⟨#[]⟩ (by decide) (by decide) hz hzl hzf hN1 hN2 ?_ ?_
          · intro W fb fa fc o z l1 l2
            obtain ⟨fo,rfl,hcell⟩:=z.at_ (by simp)
            have hc0:=hcell 0 (by simp)
            have hc1:=hcell 1 (by simp)
            exact enter_sp W a page X s B cp ao [I,(j:Int)] fb fc _ hG (hS.more o) hF ⟨ha0,ha⟩ (z.ns hzl) l1 l2 2 hNE h0 hR.1 hfr
              (fun W' o'=>bsplit_root W' a page X I j B cp fb fo fc ao (hG.nm ((hS.more o).more o')) hF hv' hJ hn2 ((o'.cell (p:=⟨fb,fo,none⟩) (z.lt (by simp)) (fun q=>q)).trans hc0) ((o'.cell (p:=⟨fb,fo+1,none⟩) (z.lt (by simp)) (fun q=>q)).trans hc1))
          · intro W o z
            obtain ⟨fo,rfl,hcell⟩:=z.at_ (by simp)
            cases hy:byd X.bord e with
            | false=>exact rbenter_root_false W a page X s B cp ao hG (hS.more o) ⟨ha0,ha⟩ hF hs I j fb fc fo (z.ns hzl) hNE hR e c hsb hbad hf hJ hy hv'
            | true=>exact rbenter_root_true W a page X s B cp ao hG (hS.more o) ⟨ha0,ha⟩ hF hs I j fb fc fo (z.ns hzl) hNE hR e c hsb hbad hf hJ hy hv'
        case pos=>
          obtain ⟨hv1,hI⟩:=hv
          obtain ⟨j,rfl⟩:∃ j:Nat,J=(j:Int):=⟨J.toNat,by have:=okC_iff.1 hJ; omega⟩
          obtain ⟨i,rfl⟩:∃ i:Nat,I=(i:Int):=⟨I.toNat,by have:=okC_iff.1 hI; omega⟩
          refine walk_three w a 3 X.lv X.rt page (hiB X.hi) s ao X.items.length cp [(i:Int),(j:Int)] fb fc fa 2 0 i j page (X.nl e c j) (X.nr e c) (X.over i j) hz hzl hzf (hlA j) hrB (hoC i j) hN1 hN2 ?_ ?_
          · intro W fb fa fc o z l1 l2
            subst hp
            exact (enter_two W a 1 X s B cp ao [(i:Int),(j:Int)] fb fc fa hG (hS.more o) hF ⟨ha0,ha⟩ (z.ns hzl) l1 l2 i j e c hNE rfl hI hJ hfr hv1 hsb hbad hf).mono (fun x w' q=>q.ea)
          · intro W o z
            obtain ⟨fo,rfl,hcell⟩:=z.at_ (by simp)
            cases hy:byd X.bord e with
            | false=>exact rbenter_two_false W a page X s B cp ao hG (hS.more o) ⟨ha0,ha⟩ hF hs i j fb fc fo (z.ns hzl) hNE hR e c hsb hbad hf hJ hy hv1 hI
            | true=>exact rbenter_two_true W a page X s B cp ao hG (hS.more o) ⟨ha0,ha⟩ hF hs i j fb fc fo (z.ns hzl) hNE hR e c hsb hbad hf hJ hy hv1 hI
end Go.Proofs.YtipkeeobmihogaaGreat
namespace Go.Proofs.YtipkeeobmihogaaGreat.blinkEnters
open Go.ChangeShapes Go.WideShapes Go.ChangeAt Go.RowKit
theorem own:ownKnob Tryz.prog.godebug=none:=by kernel_rfl
theorem lifted (os:Os) (started:os.Started) (H:Type) (enc:TypeId × Value→H) :
    ReturnsInHanded {} Tryz.checked os 3 .any (Rows.blinkEntersSpec.pre6 enc Tryz.prog Tryz.f3 Rows.blinkEntersRow.domain false) (Rows.blinkEntersSpec.post enc Tryz.prog Tryz.f3 false true false false):=by
  refine returnsInHanded_of_change_sized (C:=Tryz.checked) own started (by kernel_rfl) Tryz.func3
    (ChangeSpec.witness6 (enc:=enc) (C:=Tryz.checked) false ⟨#[],#[.agg #[.int .i64 0,.int .i64 0,.int .i64 0,.int .i64 0,.string ByteArray.empty,.slice none 0 0],.int .i64 0,.agg #[.string ByteArray.empty,.slice none 0 0]],[]⟩ 8 (by kernel_rfl) (by kernel_rfl) (by kernel_rfl) (by kernel_rfl)) ?_
  intro W base args ds gs before hval0 hW hcnd hsz _
  have hval:∀ (j:Nat) t v,Tryz.f3.params[j]?=some t→args[j]?=some v→Value.okWide Tryz.prog W .any base t v:=hval0
  have hW':=hW
  obtain ⟨p,q,hA0,hV,rfl,hfz,hnd⟩:=hW
  have hA:DataW.TrodAll enc Tryz.prog W 0 (fun _=>true) true Tryz.f3.params.toList args.toList ds p:=hA0
  rw [Tryz.params3] at hA hval hsz
  obtain ⟨v0,vs0,d0,ds0,p0,q0,hargs,rfl,rfl,h0,r0⟩:=trodAll_cons hA
  obtain ⟨v1,vs1,d1,ds1,p1,q1,rfl,rfl,rfl,h1,r1⟩:=trodAll_cons r0
  obtain ⟨v2,vs2,d2,ds2,p2,q2,rfl,rfl,rfl,h2,r2⟩:=trodAll_cons r1
  obtain ⟨rfl,rfl,rfl⟩:=trodAll_nil r2
  obtain rfl:args=#[v0,v1,v2]:=by cases args; simp_all
  obtain ⟨rfl,rfl⟩:=trodVars_none hV
  obtain ⟨pa,pk,pu,pr,ph,pB,pao,pcp,pl,hp⟩:=open_page (hval 0 24 v0 rfl rfl) h0 (sized_mem hsz (j:=0) rfl rfl)
  obtain rfl:=hp.val
  have lt0:∀ x ∈ p0,x.block < W.heap.size:=fun x hx=>hW'.lt x (by simp [hx])
  obtain ⟨a1,rfl,rfl,rfl,w1⟩:=open_int Tryz.underlying3 (hval 1 3 v1 rfl rfl) h1
  obtain ⟨S2,B2,ao2,cp2,l2,rfl,hs2,hz2,hl2,hf2⟩:=open_bin (hval 2 27 v2 rfl rfl) h2 (sized_mem hsz (j:=2) rfl rfl)
  have lt2:∀ x ∈ p2,x.block < W.heap.size:=fun x hx=>hW'.lt x (by simp [hx])
  clear hA0 hval0
  simp only [List.append_nil] at hW'
  refine (enters_law W pa pk pu pr a1 ph S2 pB pcp pao pl l2 B2 cp2 ao2 hp.strs hp.fit hp.len hp.high hp.a.2 hs2 hz2 hl2 hf2).mono fun e W' ⟨he,ho⟩=>?_
  subst he
  have bel:Below W.heap.size W W':=ho.below (Nat.le_refl _) (fun _ _ h=>h)
  exact ⟨_,rfl,_,_,_,[],_,[],hW',trodAll_mk1 (shut_bool Tryz.underlying4 _),(trodAll_cons_mk (Below.trod Tryz.laidOut (by kernel_rfl) (of_decide_eq_true (by kernel_rfl)) h0 bel lt0) (trodAll_cons_mk (shut_int Tryz.underlying3 w1) (trodAll_cons_mk (Below.trod Tryz.laidOut (by kernel_rfl) (of_decide_eq_true (by kernel_rfl)) h2 bel lt2) trodAll_mk0))),rfl,bel.frame _,fun h=>by cases h⟩
theorem over:Rows.blinkEntersRow.holds Tryz.pinned (OpenSpec.ofChange Rows.blinkEntersSpec) :=
  OpenClaim.holds_of_wide 3 Tryz.f3 rfl rfl rfl rfl rfl rfl rfl ⟨rfl,rfl,rfl,rfl,rfl⟩ rfl rfl rfl rfl rfl (by kernel_rfl) Tryz.func3 (by kernel_rfl)
    (of_decide_eq_true (by kernel_rfl)) (by unfold Func.isWrapper; first | (rw [if_pos (by decide +kernel)]; kernel_rfl) | (rw [if_neg (by decide +kernel)]; exact ⟨rfl,rfl⟩))
    (fun os started H enc _=>lifted os started H enc)
end Go.Proofs.YtipkeeobmihogaaGreat.blinkEnters
namespace Go.Proofs.YtipkeeobmihogaaGreat
theorem blinkEnters_holds:Rows.BlinkEntersSaid:=blinkEnters.over
#print axioms blinkEnters_holds
end Go.Proofs.YtipkeeobmihogaaGreat
