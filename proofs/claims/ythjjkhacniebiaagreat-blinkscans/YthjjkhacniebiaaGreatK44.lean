/- Trees of nodes as plain data: what an item that comes in makes of a forest; pages put into a list. -/
import Derived.Test.YthjjkhacniebiaaGreatK43
namespace Go.Proofs.YthjjkhacniebiaaGreat
open Go.RowKit

variable {K : Nat → Prop}

/-- A page put in a place; the list grows to it. -/
def growZ (zs : List Pz) (n : Nat) : List Pz := zs ++ List.replicate (n + 1 - zs.length) Pz.none
def putZ (zs : List Pz) (q : Nat × Pz) : List Pz := (growZ zs q.1).set q.1 q.2
theorem growZ_len (zs : List Pz) (n : Nat) : (growZ zs n).length = max zs.length (n + 1) := by unfold growZ; rw [List.length_append, List.length_replicate]; omega
theorem putZ_len (zs : List Pz) (q : Nat × Pz) : (putZ zs q).length = max zs.length (q.1 + 1) := by unfold putZ; rw [List.length_set, growZ_len]
/-- An item that is written over in a row of pages. -/
theorem flat_set (zs : List Pz) (i : Nat) (z : Pz) (h : i < zs.length) : (zs.set i z).flatMap Pz.c = (zs.take i).flatMap Pz.c ++ z.c ++ (zs.drop (i + 1)).flatMap Pz.c := by
  have e : zs.set i z = zs.take i ++ (z :: zs.drop (i + 1)) := by rw [List.set_eq_take_append_cons_drop, if_pos h]
  rw [e, List.flatMap_append, List.flatMap_cons, List.append_assoc]
theorem Fm.put {w : World} {f g cap : Nat} {zs : List Pz} (h : Fm K w f g cap zs) (i : Nat) (hi : i < zs.length) (z : Pz) (hz : At w (fun k => k ≠ f ∧ k ≠ g ∧ ¬ K k) z) : Fm K (w.setCells g (i * 6) z.c) f g cap (zs.set i z) ∧ Only (fun k => k = g) w (w.setCells g (i * 6) z.c) := by
  have ho := only_setCells g z.c (i * 6) w
  obtain ⟨c1, c3, e, hl, e1, e3⟩ := flat_part zs i hi
  have hr := h.row
  rw [e] at hr
  have hp := own_put hr z.c (by rw [Pz.c_len, Pz.c_len])
  rw [hl, e1, e3, ← flat_set zs i z hi] at hp
  refine ⟨⟨?_, ?_, by rw [setCells_size]; exact h.flt, ?_, h.ne, ?_, by rw [setCells_size]; exact h.kk⟩, ho⟩
  · rw [List.length_set]
    exact (ho.cell (p := ⟨f, 0, none⟩) h.flt (by exact h.ne)).trans h.cell
  · rw [setCells_frozen]; exact h.fr
  · rw [List.length_set]; exact hp
  · intro y hy
    rcases List.mem_or_eq_of_mem_set hy with q | q
    · exact (h.each y q).kept ho (fun k hk => hk.2.1)
    · rw [q]; exact hz.kept ho (fun k hk => hk.2.1)
/-- What a call leaves of the forest. -/
structure Fk (K : Nat → Prop) (w w' : World) (f g : Nat) (zs : List Pz) : Prop where
  ex : ∃ g' cap', Fm K w' f g' cap' zs ∧ (g' = g ∨ w.heap.size ≤ g')
  only : Only (fun k => k = f ∨ k = g) w w'
theorem Fk.refl {w w' : World} {f g cap : Nat} {zs : List Pz} (h : Fm K w f g cap zs) (ho : Only (fun _ => False) w w') : Fk K w w' f g zs := ⟨⟨g, cap, h.more ho, .inl rfl⟩, ho.mono (fun _ _ h => h.elim)⟩
/-- What stands apart of the forest stays. -/
theorem At.fk {w w' : World} {f g : Nat} {z : Pz} (h : At w (fun k => k ≠ f ∧ k ≠ g ∧ ¬ K k) z) {g' : Nat} (ho : Only (fun k => k = f ∨ k = g) w w') (hg : g' = g ∨ w.heap.size ≤ g') : At w' (fun k => k ≠ f ∧ k ≠ g' ∧ ¬ K k) z :=
  ((h.old).kept ho (fun k hk e => by rcases e with e | e; exact hk.1.1 e; exact hk.1.2.1 e)).mono (fun k hk => ⟨hk.1.1, by rcases hg with q | q; rw [q]; exact hk.1.2.1; have := hk.2; omega, hk.1.2.2⟩)
theorem run_build_pz (w : World) : (Instr.build 24 #[]).run Tryz.prog w = .ok (.agg Pz.none.ar) w := run_build w 24 #[] _ (by kernel_rfl)
/-- One more page. -/
theorem Fm.grow {w wr : World} {f g0 g cap : Nat} {zs : List Pz} (h : Fm K wr f g cap zs) (hlen : zs.length ≤ 100000) (hg : g = g0 ∨ w.heap.size ≤ g) (ho : Only (fun k => k = f ∨ k = g0) w wr) :
    ∃ g' c' w', (Builtin.append_ #[51, 51] 51 #[.slice (some ⟨g, 0, none⟩) zs.length cap, .slice (some ⟨wr.heap.size, 0, none⟩) 1 1]).run Tryz.prog (wr.alloc (.cells Pz.none.ar 24)) = .ok (.slice (some ⟨g', 0, none⟩) (zs.length + 1) c') w' ∧ w'.cell? ⟨f, 0, none⟩ = some (.slice (some ⟨g, 0, none⟩) zs.length cap) ∧ w'.frozen? ⟨f, 0, none⟩ = false ∧ Fm K (w'.setCell ⟨f, 0, none⟩ (.slice (some ⟨g', 0, none⟩) (zs.length + 1) c')) f g' c' (zs ++ [Pz.none]) ∧ (g' = g0 ∨ w.heap.size ≤ g') ∧ Only (fun k => k = f ∨ k = g0) w (w'.setCell ⟨f, 0, none⟩ (.slice (some ⟨g', 0, none⟩) (zs.length + 1) c')) := by
  have hA := onlyA wr (.cells Pz.none.ar 24)
  have h1 := h.more hA
  obtain ⟨g', c', w', hr, hrow, hon, hgg⟩ := pg_append _ 0 g zs.length cap _ h1.row wr.heap.size Pz.none (Rg.new wr Pz.none.ar 24) (by omega) (Nat.zero_le _)
  have hfg : ¬ f = g := h.ne
  have hfg' : f ≠ g' := by
    rcases hgg with q | q
    · rw [q]; exact h.ne
    · have := h1.flt; omega
  have hc := (hon.cell (p := ⟨f, 0, none⟩) h1.flt hfg).trans h1.cell
  have hfr := (hon.frozen (p := ⟨f, 0, none⟩) h1.flt hfg).trans h1.fr
  have hS : Only (fun k => k = f) w' (w'.setCell ⟨f, 0, none⟩ (.slice (some ⟨g', 0, none⟩) (zs.length + 1) c')) := Only.setCell w' ⟨f, 0, none⟩ _ rfl
  refine ⟨g', c', w', hr, hc, hfr, ⟨?_, ?_, ?_, ?_, hfg', ?_, ?_⟩, ?_, ?_⟩
  · rw [List.length_append]
    exact World.cell?_setCell_same _ _ _ hc
  · simpa using hfr
  · have := hon.size
    have := h1.flt
    simp
    omega
  · have e : (zs ++ [Pz.none]).flatMap Pz.c = zs.flatMap Pz.c ++ Pz.none.c := by simp
    rw [e, List.length_append]
    exact own_keptJ hrow hS (fun b hb e => by simp [Value.ownBlock] at hb; omega)
  · intro z hz
    rcases List.mem_append.1 hz with q | q
    · have hz0 := (h.each z q).old
      refine (((hz0.more hA).kept hon (fun k hk e => hk.1.2.1 e)).kept hS (fun k hk e => hk.1.1 e)).mono (fun k hk => ⟨hk.1.1, ?_, hk.1.2.2⟩)
      have := hA.size
      rcases hgg with q | q
      · rw [q]; exact hk.1.2.1
      · have := hk.2; omega
    · rw [List.mem_singleton.1 q]; exact At.none _ _
  · intro k hk
    have h3 := h1.kk k hk
    have h4 := hon.size
    simp
    omega
  · rcases hgg with q | q
    · rw [q]; exact hg
    · right
      have := ho.size
      have := hA.size
      omega
  · refine ((ho.trans hA (fun _ _ h => h.elim)).trans hon (fun i hi e => ?_)).trans hS (fun i hi e => .inl e)
    rcases hg with q | q
    · exact .inr (e.trans q)
    · omega
end Go.Proofs.YthjjkhacniebiaaGreat

namespace Go.Proofs.YthjjkhacniebiaaGreat
open Go.RowKit

variable {K : Nat → Prop}

/-- How many pages a forest's variable says that there are. -/
def lenAt (w : World) (f : Nat) : Nat := match w.cell? ⟨f, 0, none⟩ with
  | some (.slice _ n _) => n
  | _ => 0
theorem lenAt_of {w : World} {f n c : Nat} {a : Option Addr} (h : w.cell? ⟨f, 0, none⟩ = some (.slice a n c)) : lenAt w f = n := by unfold lenAt; rw [h]
theorem growZ_more (zs : List Pz) (m : Nat) : zs ++ List.replicate m Pz.none ++ [Pz.none] = zs ++ List.replicate (m + 1) Pz.none := by
  rw [List.append_assoc, ← List.replicate_succ']
def imf (q : Nat × Pz) : List Value := imc q.1 q.2
theorem ims_part (ims : List (Nat × Pz)) (i : Nat) (h : i < ims.length) : ∃ c1 c3, ims.flatMap imf = c1 ++ imf ims[i] ++ c3 ∧ c1.length = i * 7 := by
  have flen : ∀ l : List (Nat × Pz), (l.flatMap imf).length = l.length * 7 := by
    intro l
    induction l with
    | nil => rfl
    | cons a t ih => rw [List.flatMap_cons, List.length_append, ih, List.length_cons]; show 7 + _ = _; omega
  refine ⟨(ims.take i).flatMap imf, (ims.drop (i + 1)).flatMap imf, ?_, by rw [flen, List.length_take]; omega⟩
  have e : ims = ims.take i ++ (ims[i] :: ims.drop (i + 1)) := by rw [← List.drop_eq_getElem_cons h, List.take_append_drop]
  calc ims.flatMap imf = (ims.take i ++ (ims[i] :: ims.drop (i + 1))).flatMap imf := by rw [← e]
    _ = _ := by rw [List.flatMap_append, List.flatMap_cons, List.append_assoc]
theorem foldl_snoc {α β : Type} (fn : β → α → β) (b : β) (l : List α) (i : Nat) (h : i < l.length) : (l.take (i + 1)).foldl fn b = fn ((l.take i).foldl fn b) l[i] := by
  rw [List.take_succ_eq_append_getElem h, List.foldl_append]
  rfl
set_option maxRecDepth 100000 in
set_option maxHeartbeats 6400000 in
theorem does_images (w : World) (f g cap : Nat) (zs : List Pz) (ims : List (Nat × Pz)) (b c : Nat) (hM : Fm K w f g cap zs) (hims : Rg w b 0 (ims.flatMap imf)) (hb : b ≠ f ∧ b ≠ g) (hA : ∀ q ∈ ims, At w (fun k => k ≠ f ∧ k ≠ g ∧ ¬ K k) q.2) (hn : 2 ≤ ims.length ∧ ims.length ≤ 3) (hz : ∀ i, i ≤ ims.length → ((ims.take i).foldl putZ zs).length ≤ 20000)
    (hp : ∀ i (h : i < ims.length), 1 ≤ ims[i].1 ∧ ims[i].1 ≤ ((ims.take i).foldl putZ zs).length + 4) :
    Calls Tryz.prog 22 #[.pointer (some ⟨f, 0, none⟩), .agg (Br.cells ⟨5, 0, ⟨#[]⟩, some ⟨b, 0, none⟩, ims.length, c⟩)] w fun x w' => x = .returned (.bool true) ∧ Fk K w w' f g (ims.foldl putZ zs) := by
  have HB := hide (Rg.new w (Br.cells ⟨5, 0, ⟨#[]⟩, some ⟨b, 0, none⟩, ims.length, c⟩) 36)
  have HO := hide (onlyA w (.cells (Br.cells ⟨5, 0, ⟨#[]⟩, some ⟨b, 0, none⟩, ims.length, c⟩) 36))
  have HM := hide hM
  have HI := hide hims
  have HN := hide hb
  have HA := hide hA
  have HNI := hide hn
  have HZ := hide hz
  have HP := hide hp
  have HFW := hide hM.flt
  have HGW : Hid (g < w.heap.size) := (World.ownsRow.lt hM.row g rfl).2
  clear hM hims hb hA hz hp
  unfold Br.cells at HB HO ⊢
  simp only [] at HB HO ⊢
  obtain ⟨n, hnn⟩ : ∃ n, ims.length = n := ⟨_, rfl⟩
  have HNN := hide hnn
  rw [hnn] at HB HO hn ⊢
  clear hnn
  go_enter Tryz.func22, Tryz.ntmps22
  go_upto_region 2 with fail
  obtain ⟨W0, hW0⟩ : ∃ x, w.alloc (.cells #[.int .i64 0, .int .i64 0, .int .i64 0, .int .u8 5, .int .i64 0, .int .i64 0, .int .i64 0, .int .i64 0, .int .i64 0, .int .i64 0, .string ⟨#[]⟩, .slice Option.none 0 0, .slice Option.none 0 0, .slice (some ⟨b, 0, none⟩) n c, .slice Option.none 0 0, .slice Option.none 0 0] 36) = x := ⟨_, rfl⟩
  rw [hW0] at HB HO ⊢
  clear hW0
  go_loopw [5] (fun x wr => ∃ (i : Nat), x = .int .i64 (i : Int) ∧ i ≤ n ∧ Hid (∃ g' cap', Fm K wr f g' cap' ((ims.take i).foldl putZ zs) ∧ (g' = g ∨ W0.heap.size ≤ g')) ∧ Hid (Only (fun k => k = f ∨ k = g) W0 wr)) (fun x _ => n - (intOf x).toNat)
  case atStart => exact ⟨0, rfl, Nat.zero_le _, hide ⟨g, cap, HM.out.more HO.out, .inl rfl⟩, hide (Only.refl _ _)⟩
  case round =>
    obtain ⟨i, rfl, hi, HF, HW⟩ := hrel
    have HBR := hide (HB.out.kept HW.out (fun e => by have h1 := HFW.out; have h2 := HGW.out; rcases e with e | e <;> omega))
    have c13 := HBR.out.cell 13 (.slice (some ⟨b, 0, none⟩) n c) rfl
    have c3 := HBR.out.cell 3 (.int .u8 5) rfl
    rw [Nat.zero_add] at c13 c3
    by_cases hlt : i < n
    · have hil : i < ims.length := by rw [HNN.out]; exact hlt
      have HIW := hide ((HI.out.more HO.out).kept HW.out (fun e => by have := HN.out; rcases e with e | e; exact this.1 e; exact this.2 e))
      obtain ⟨k1, k3, ke, kl⟩ := ims_part ims i hil
      rw [ke] at HIW
      have HIP := hide HIW.out.part
      rw [kl, Nat.zero_add] at HIP
      have HIP0a := hide (HI.out.more HO.out)
      rw [ke] at HIP0a
      have HIP0 := hide HIP0a.out.part
      rw [kl, Nat.zero_add] at HIP0
      have HPI := hide (HP.out i hil)
      have HAI := hide (HA.out ims[i] (List.getElem_mem hil))
      have HSN := hide (foldl_snoc putZ zs ims i hil)
      have HZI := hide (HZ.out i (by omega))
      have HZI2 := hide (HZ.out (i + 1) (by omega))
      clear ke kl HIW HIP0a
      obtain ⟨⟨m, z⟩, hq⟩ : ∃ q, ims[i] = q := ⟨_, rfl⟩
      rw [hq] at HIP HIP0 HPI HAI HSN
      clear hq hil
      obtain ⟨zi, hzi⟩ : ∃ l, (ims.take i).foldl putZ zs = l := ⟨_, rfl⟩
      rw [hzi] at HF HPI HSN HZI
      clear hzi
      obtain ⟨g1, cap1, hM1, hg1⟩ := HF.out
      have HM1 := hide hM1
      have HG1 := hide hg1
      have fc := hM1.cell
      have d0 := HIP.out.cell 0 (.int .i64 (m : Int)) rfl
      rw [Nat.add_zero] at d0
      have hm1 : ¬ (m : Int) < 1 := by have := HPI.out.1; simp only [] at this; omega
      have hzl : zi.length ≤ 20000 := HZI.out
      have hm2 : ¬ (zi.length : Int) + 4 < (m : Int) := by have := HPI.out.2; simp only [] at this; omega
      have hml : m ≤ 20004 := by have := HPI.out.2; simp only [] at this; omega
      have hwr : IntKind.i64.wrap ((zi.length : Int) + 4) = (zi.length : Int) + 4 := by rw [IntKind.wrap_i64]; omega
      have hlk : (i : Int) < (n : Int) := by omega
      have hlk2 : ¬ (n : Int) ≤ (i : Int) := by omega
      clear hM1 hg1 HF
      go_upto_region 7 with fail
      clear c13 c3 d0 fc hwr
      go_loopw [40] (fun _ wx => ∃ (t : Nat), zi.length + t ≤ max zi.length (m + 1) ∧ Hid (∃ g' cap', Fm K wx f g' cap' (zi ++ List.replicate t Pz.none) ∧ (g' = g ∨ W0.heap.size ≤ g')) ∧ Hid (Only (fun k => k = f ∨ k = g) W0 wx)) (fun _ wx => m + 1 - lenAt wx f)
      case atStart => exact ⟨0, by omega, hide ⟨g1, cap1, by rw [List.replicate_zero, List.append_nil]; exact HM1.out, HG1.out⟩, HW⟩
      case round =>
        obtain ⟨t, ht, HF2, HW2⟩ := hrel
        obtain ⟨g2, cap2, hM2, hg2⟩ := HF2.out
        have hlen : (zi ++ List.replicate t Pz.none).length = zi.length + t := by rw [List.length_append, List.length_replicate]
        have HM2 := hide hM2
        have HG2 := hide hg2
        have fc := hM2.cell
        have ff := hM2.fr
        have hla := lenAt_of fc
        clear HF2 hM2 hg2
        by_cases hlm : zi.length + t ≤ m
        · have hl1 : ((zi ++ List.replicate t Pz.none).length : Int) ≤ (m : Int) := by omega
          obtain ⟨g3, c3, w3, hr3, hc3, hf3, hM3, hg3, ho3⟩ := HM2.out.grow (by omega) HG2.out HW2.out
          have hl3 := lenAt_of hM3.cell
          rw [growZ_more] at hM3
          rw [hlen] at hr3 hc3 fc hl1
          have HR3 := hide hr3
          have HX3 : Hid (∃ g' cap', Fm K (w3.setCell ⟨f, 0, none⟩ (.slice (some ⟨g3, 0, none⟩) (zi.length + t + 1) c3)) f g' cap' (zi ++ List.replicate (t + 1) Pz.none) ∧ (g' = g ∨ W0.heap.size ≤ g')) := ⟨g3, c3, by rw [hlen] at hM3; exact hM3, hg3⟩
          have HO3 : Hid (Only (fun k => k = f ∨ k = g) W0 (w3.setCell ⟨f, 0, none⟩ (.slice (some ⟨g3, 0, none⟩) (zi.length + t + 1) c3))) := by rw [hlen] at ho3; exact ho3
          have HL3 : Hid (lenAt (w3.setCell ⟨f, 0, none⟩ (.slice (some ⟨g3, 0, none⟩) (zi.length + t + 1) c3)) f = zi.length + t + 1) := by
            rw [hlen] at hl3
            unfold Hid
            rw [hl3, List.length_append, hlen]
            rfl
          have HL2 := hide (hla.trans hlen)
          clear hr3 hM3 hg3 ho3 hl3 hla hlen
          go_wp2_with (at_builtin; go_must (refine Lib.wpList_append_run _ rfl _ _ _ _ rfl _ _ rfl rfl _ _ HR3.out ?_))
          go_roundw
          case rel => exact ⟨t + 1, by omega, HX3, HO3⟩
          case measure =>
            have h1 := HL3.out
            have h2 := HL2.out
            omega
        · have hl1 : ¬ ((zi ++ List.replicate t Pz.none).length : Int) ≤ (m : Int) := by omega
          have hgz : zi ++ List.replicate t Pz.none = growZ zi m := by unfold growZ; congr 2; omega
          rw [hgz] at HM2 fc hl1 hla
          have hml2 : m < (growZ zi m).length := by rw [growZ_len]; omega
          have HAZ := hide ((HAI.out.more HO.out).fk HW2.out HG2.out)
          have HPT := hide (HM2.out.put m hml2 z HAZ.out)
          have HIW2 := hide (HIP0.out.kept HW2.out (fun e => by have := HN.out; rcases e with e | e; exact this.1 e; exact this.2 e))
          have HBR2 := hide (HB.out.kept HW2.out (fun e => by have h1 := HFW.out; have h2 := HGW.out; rcases e with e | e <;> omega))
          have HRG := hide (HM2.out.rg m hml2)
          have c13 := HBR2.out.cell 13 (.slice (some ⟨b, 0, none⟩) n c) rfl
          rw [Nat.zero_add] at c13
          have e0 := HIW2.out.cell 1 (.int .i64 z.p.lsn) rfl
          have e1 := HIW2.out.cell 2 (.int .i64 z.p.kind) rfl
          have e2 := HIW2.out.cell 3 (.int .i64 z.p.level) rfl
          have e3 := HIW2.out.cell 4 (.int .i64 z.p.right) rfl
          have e4 := HIW2.out.cell 5 (.string z.p.high) rfl
          have e5 := HIW2.out.cell 6 (.slice z.ao z.p.items.length z.cp) rfl
          obtain ⟨y, hy⟩ : ∃ y, (growZ zi m)[m] = y := ⟨_, rfl⟩
          rw [hy] at HRG
          have q0 := HRG.out.cell 0 (.int .i64 y.p.lsn) rfl
          have q1 := HRG.out.cell 1 (.int .i64 y.p.kind) rfl
          have q2 := HRG.out.cell 2 (.int .i64 y.p.level) rfl
          have q3 := HRG.out.cell 3 (.int .i64 y.p.right) rfl
          have q4 := HRG.out.cell 4 (.string y.p.high) rfl
          have q5 := HRG.out.cell 5 (.slice y.ao y.p.items.length y.cp) rfl
          have r0 := HRG.out.fr 0 (by show 0 < 6; decide)
          have r1 := HRG.out.fr 1 (by show 1 < 6; decide)
          have r2 := HRG.out.fr 2 (by show 2 < 6; decide)
          have r3 := HRG.out.fr 3 (by show 3 < 6; decide)
          have r4 := HRG.out.fr 4 (by show 4 < 6; decide)
          have r5 := HRG.out.fr 5 (by show 5 < 6; decide)
          rw [Nat.add_zero] at q0 r0
          obtain ⟨nz, hnz⟩ : ∃ nz, (growZ zi m).length = nz := ⟨_, rfl⟩
          have hm3 : ¬ (nz : Int) ≤ (m : Int) := by omega
          have hm4 : (m : Int) < (nz : Int) := by omega
          rw [hnz] at fc hl1
          clear hy hnz hgz hla
          go_upto_region 9 with fail
          go_region
          all_goals go_wp2_with fail
          all_goals go_roundw
          case rel =>
            refine ⟨i + 1, by go_num, by omega, hide ⟨g2, cap2, ?_, HG2.out⟩, ?_⟩
            · have h := HPT.out.1.more (Only.drew _ _)
              rw [HSN.out]
              exact h
            · have h := (HW2.out.trans HPT.out.2 (fun k hk e => by rcases HG2.out with q | q; exact .inr (e.trans q); omega)).trans (Only.drew (fun _ => False) _) (fun _ _ h => h.elim)
              exact h
          case measure => simp [intOf]; omega
    · have hlk : ¬ (i : Int) < (n : Int) := by omega
      have ej : i = n := by omega
      have hn1 : (1 : Int) < (n : Int) := by omega
      subst ej
      have HRES : Hid (Fk K w wr f g (ims.foldl putZ zs)) := by
        obtain ⟨g', cap', h1, h2⟩ := HF.out
        rw [← HNN.out, List.take_length] at h1
        exact ⟨⟨g', cap', h1, by rcases h2 with q | q; exact .inl q; exact .inr (Nat.le_trans HO.out.size q)⟩, (HO.out.mono (fun _ _ h => h.elim)).trans HW.out (fun _ _ h => h)⟩
      clear HF
      go_wp2_with fail
      go_ret
      exact ⟨rfl, HRES.out⟩
end Go.Proofs.YthjjkhacniebiaaGreat

namespace Go.Proofs.YthjjkhacniebiaaGreat
open Go.RowKit

theorem Fst.congr {N : Nat} {F : Nat → Nd} {lo : Nat → En} {A A' : En → Prop} (h : Fst N F lo A) (hA : ∀ x, A' x ↔ A x) : Fst N F lo A' :=
  ⟨h.two, fun e k => h.aok e ((hA e).1 k), h.ok, h.low, h.last, h.next, h.kid, h.apart, h.root, h.top, fun i hp hv e => by rw [h.cont i hp hv e, hA e]⟩
theorem Fz.putZ {N : Nat} {F : Nat → Nd} {zs : List Pz} (h : Fz N F zs) (n : Nat) (hn : n ≤ N) (X : Nd) (ao : Option Addr) (cp : Nat) : Fz (max N (n + 1)) (upd F n X) (putZ zs (n, X.z 0 ao cp)) := by
  have hl := h.len
  refine ⟨by rw [putZ_len, hl], fun i hp => ?_⟩
  have hlen : (Go.Proofs.YthjjkhacniebiaaGreat.putZ zs (n, X.z 0 ao cp)).length = max N (n + 1) := by rw [putZ_len, hl]
  by_cases q : i = n
  · subst q
    refine ⟨ao, cp, by rw [hlen]; exact hp.2, ?_⟩
    rw [upd_same]
    unfold Go.Proofs.YthjjkhacniebiaaGreat.putZ
    simp
  · have hi : i < N := by have := hp.2; omega
    obtain ⟨a, c, h1, h2⟩ := h.each i ⟨hp.1, hi⟩
    refine ⟨a, c, by rw [hlen]; exact hp.2, ?_⟩
    rw [upd_other _ _ q, ← h2]
    unfold Go.Proofs.YthjjkhacniebiaaGreat.putZ growZ
    rw [List.getElem_set_ne (fun z => q z.symm), List.getElem_append_left h1]
theorem Fz.set {N : Nat} {F : Nat → Nd} {zs : List Pz} (h : Fz N F zs) (n : Nat) (hn : n < N) (X : Nd) (ao : Option Addr) (cp : Nat) : Fz N (upd F n X) (zs.set n (X.z 0 ao cp)) := by
  have h1 := h.putZ n (Nat.le_of_lt hn) X ao cp
  have e : Go.Proofs.YthjjkhacniebiaaGreat.putZ zs (n, X.z 0 ao cp) = zs.set n (X.z 0 ao cp) := by
    unfold Go.Proofs.YthjjkhacniebiaaGreat.putZ growZ
    have : n + 1 - zs.length = 0 := by rw [h.len]; omega
    simp [this]
  rw [e, Nat.max_eq_left hn] at h1
  exact h1
section
variable {N : Nat} {F : Nat → Nd} {lo : Nat → En} {A : En → Prop} {i : Nat} {e : En} {c : Int}
/-- An item may come to a page. -/
structure May (N : Nat) (F : Nat → Nd) (lo : Nat → En) (i : Nat) (e : En) (c : Int) : Prop where
  pgi : pg N i
  ok : e.ok = true
  low : (lo i).lt e
  not : ¬ (F i).bad e
  leaf : (F i).lv = 0 → c = 0
  kid : 0 < (F i).lv → ∃ d : Nat, c = (d : Int) ∧ pg N d ∧ (F d).lv + 1 = (F i).lv ∧ lo d = e
theorem May.okc (h : May N F lo i e c) (hN : N ≤ 65536) (v : 0 < (F i).lv) : okC c = true := by
  obtain ⟨d, rfl, d2, _⟩ := h.kid v
  exact okC_iff.2 ⟨by have := d2.1; omega, by have := d2.2; omega⟩
theorem step_fit (h : Fst N F lo A) (m : May N F lo i e c) (hs : ((F i).ins e c).size ≤ 512) : Fst N (upd F i ((F i).ins e c)) lo (fun x => A x ∨ ((F i).lv = 0 ∧ x = e)) := by
  obtain ⟨_, g2, g3, g4⟩ := Nd.good m.not
  exact h.ins m.pgi m.ok m.low g2 (fun v => ⟨g3 v, m.leaf v⟩) (fun v => ⟨g4 v, m.kid v⟩) hs
theorem step_split (h : Fst N F lo A) (hN : N ≤ 65535) (m : May N F lo i e c) (hi : i ≠ 1) (hf : 512 < ((F i).ins e c).size) : Fst (N + 1) (upd (upd F i ((F i).nl e c N)) N ((F i).nr e c)) (upd lo N (F i).bord) (fun x => A x ∨ ((F i).lv = 0 ∧ x = e)) := by
  obtain ⟨_, g2, g3, g4⟩ := Nd.good m.not
  have hk := h.kok (by omega) m.pgi
  have hok := h.ok i m.pgi
  have hc := fun v => m.okc (by omega) v
  have hn : 2 ≤ (F i).ks.length := by have := (hok.two hk m.not hc hf).1; omega
  have hsp := h.split (by omega) m.pgi hi hn
  have hiN : i ≠ N := by have := m.pgi.2; omega
  obtain ⟨G, hG⟩ : ∃ G, upd (upd F i ((F i).left N)) N (F i).right = G := ⟨_, rfl⟩
  rw [hG] at hsp
  have gN : G N = (F i).right := by rw [← hG, upd_same]
  have gi : G i = (F i).left N := by rw [← hG, upd_other _ _ hiN, upd_same]
  have pN : pg (N + 1) N := ⟨by have := h.two; omega, by omega⟩
  have pi : pg (N + 1) i := ⟨m.pgi.1, by have := m.pgi.2; omega⟩
  have kid : 0 < (F i).lv → ∃ d : Nat, c = (d : Int) ∧ pg (N + 1) d ∧ (G d).lv + 1 = (F i).lv ∧ upd lo N (F i).bord d = e := fun v => by
    obtain ⟨d, d1, d2, d3, d4⟩ := m.kid v
    have dN : d ≠ N := by have := d2.2; omega
    have di : d ≠ i := fun q => by rw [q] at d3; omega
    exact ⟨d, d1, ⟨d2.1, by have := d2.2; omega⟩, by rw [← hG, upd_other _ _ dN, upd_other _ _ di]; exact d3, by rw [upd_other _ _ dN]; exact d4⟩
  unfold Nd.nl Nd.nr
  by_cases y : byd (F i).bord e = true
  · obtain ⟨q1, q2⟩ := hok.fitsR hk m.not hc hf
    obtain ⟨_, r2, r3, r4⟩ := Nd.good q1
    have e1 : upd (upd F i ((F i).left N)) N ((F i).right.ins e c) = upd G N ((F i).right.ins e c) := by
      rw [← hG]
      funext x
      unfold upd
      by_cases z : x = N
      · rw [if_pos z, if_pos z]
      · rw [if_neg z, if_neg z, if_neg z]
    rw [if_pos y, if_pos y, e1]
    have r := hsp.ins (i := N) (e := e) (c := c) pN m.ok (by rw [upd_same]; exact (byd_yes.1 y).2) (by rw [gN]; exact r2) (fun v => by rw [gN] at v ⊢; exact ⟨r3 v, m.leaf v⟩) (fun v => by rw [gN] at v ⊢; exact ⟨r4 v, kid v⟩) (by rw [gN]; exact q2)
    rw [gN] at r
    exact r
  · have y' : byd (F i).bord e = false := by cases z : byd (F i).bord e; rfl; exact absurd z y
    obtain ⟨q1, q2⟩ := hok.fitsL hk m.not hc hf y' N
    obtain ⟨_, r2, r3, r4⟩ := Nd.good q1
    have e1 : upd (upd F i (((F i).left N).ins e c)) N (F i).right = upd G i (((F i).left N).ins e c) := by
      rw [← hG]
      funext x
      unfold upd
      by_cases z : x = N
      · rw [if_pos z, if_neg (by rw [z]; exact fun k => hiN k.symm), if_pos z]
      · rw [if_neg z]
        by_cases u : x = i
        · rw [if_pos u, if_pos u]
        · rw [if_neg u, if_neg u, if_neg z, if_neg u]
    rw [if_neg y, if_neg y, e1]
    have r := hsp.ins (i := i) (e := e) (c := c) pi m.ok (by rw [upd_other _ _ hiN]; exact m.low) (by rw [gi]; exact r2) (fun v => by rw [gi] at v ⊢; exact ⟨r3 v, m.leaf v⟩) (fun v => by rw [gi] at v ⊢; exact ⟨r4 v, kid v⟩) (by rw [gi]; exact q2)
    rw [gi] at r
    exact r
theorem step_root (h : Fst N F lo A) (hN : N + 1 ≤ 65535) (m : May N F lo 1 e c) (hf : 512 < ((F 1).ins e c).size) : Fst (N + 2) (upd (upd (upd F N ((F 1).nl e c (N + 1))) (N + 1) ((F 1).nr e c)) 1 ((F 1).over N (N + 1))) (upd (upd lo N noE) (N + 1) (F 1).bord) (fun x => A x ∨ ((F 1).lv = 0 ∧ x = e)) := by
  obtain ⟨_, g2, g3, g4⟩ := Nd.good m.not
  have h2 := h.two
  have hk := h.kok (by omega) m.pgi
  have hok := h.ok 1 m.pgi
  have hc := fun v => m.okc (by omega) v
  have hn : 2 ≤ (F 1).ks.length := by have := (hok.two hk m.not hc hf).1; omega
  have hsp := h.splitRoot hN hn
  obtain ⟨G, hG⟩ : ∃ G, upd (upd (upd F N ((F 1).left (N + 1))) (N + 1) (F 1).right) 1 ((F 1).over N (N + 1)) = G := ⟨_, rfl⟩
  rw [hG] at hsp
  have gN : G N = (F 1).left (N + 1) := by rw [← hG, upd_other _ _ (by omega), upd_other _ _ (by omega), upd_same]
  have gM : G (N + 1) = (F 1).right := by rw [← hG, upd_other _ _ (by omega), upd_same]
  have pN : pg (N + 2) N := ⟨by omega, by omega⟩
  have pM : pg (N + 2) (N + 1) := ⟨by omega, by omega⟩
  have lN : upd (upd lo N noE) (N + 1) (F 1).bord N = noE := by rw [upd_other _ _ (by omega), upd_same]
  have kid : 0 < (F 1).lv → ∃ d : Nat, c = (d : Int) ∧ pg (N + 2) d ∧ (G d).lv + 1 = (F 1).lv ∧ upd (upd lo N noE) (N + 1) (F 1).bord d = e := fun v => by
    obtain ⟨d, d1, d2, d3, d4⟩ := m.kid v
    have dN : d ≠ N ∧ d ≠ N + 1 := by have := d2.2; omega
    have di : d ≠ 1 := fun q => by rw [q] at d3; omega
    exact ⟨d, d1, ⟨d2.1, by have := d2.2; omega⟩, by rw [← hG, upd_other _ _ di, upd_other _ _ dN.2, upd_other _ _ dN.1]; exact d3, by rw [upd_other _ _ dN.2, upd_other _ _ dN.1]; exact d4⟩
  unfold Nd.nl Nd.nr
  by_cases y : byd (F 1).bord e = true
  · obtain ⟨q1, q2⟩ := hok.fitsR hk m.not hc hf
    obtain ⟨_, r2, r3, r4⟩ := Nd.good q1
    have e1 : upd (upd (upd F N ((F 1).left (N + 1))) (N + 1) ((F 1).right.ins e c)) 1 ((F 1).over N (N + 1)) = upd G (N + 1) ((F 1).right.ins e c) := by
      rw [← hG]
      funext x
      unfold upd
      by_cases z : x = 1
      · rw [if_pos z, if_neg (by omega), if_pos z]
      · rw [if_neg z]
        by_cases u : x = N + 1
        · rw [if_pos u, if_pos u]
        · rw [if_neg u, if_neg u, if_neg z, if_neg u]
    rw [if_pos y, if_pos y, e1]
    have r := hsp.ins (i := N + 1) (e := e) (c := c) pM m.ok (by rw [upd_same]; exact (byd_yes.1 y).2) (by rw [gM]; exact r2) (fun v => by rw [gM] at v ⊢; exact ⟨r3 v, m.leaf v⟩) (fun v => by rw [gM] at v ⊢; exact ⟨r4 v, kid v⟩) (by rw [gM]; exact q2)
    rw [gM] at r
    exact r
  · have y' : byd (F 1).bord e = false := by cases z : byd (F 1).bord e; rfl; exact absurd z y
    obtain ⟨q1, q2⟩ := hok.fitsL hk m.not hc hf y' (N + 1)
    obtain ⟨_, r2, r3, r4⟩ := Nd.good q1
    have e1 : upd (upd (upd F N (((F 1).left (N + 1)).ins e c)) (N + 1) (F 1).right) 1 ((F 1).over N (N + 1)) = upd G N (((F 1).left (N + 1)).ins e c) := by
      rw [← hG]
      funext x
      unfold upd
      by_cases z : x = 1
      · rw [if_pos z, if_neg (by omega), if_pos z]
      · rw [if_neg z]
        by_cases u : x = N + 1
        · rw [if_pos u, if_neg (by omega), if_neg z, if_pos u]
        · rw [if_neg u]
          by_cases t : x = N
          · rw [if_pos t, if_pos t]
          · rw [if_neg t, if_neg t, if_neg z, if_neg u, if_neg t]
    rw [if_neg y, if_neg y, e1]
    have r := hsp.ins (i := N) (e := e) (c := c) pN m.ok (by rw [lN]; exact noE_lt m.ok) (by rw [gN]; exact r2) (fun v => by rw [gN] at v ⊢; exact ⟨r3 v, m.leaf v⟩) (fun v => by rw [gN] at v ⊢; exact ⟨r4 v, kid v⟩) (by rw [gN]; exact q2)
    rw [gN] at r
    exact r
/-- What has to be told above is new there. -/
theorem split_new (h : Fst N F lo A) (hp : pg N i) (hn : 2 ≤ (F i).ks.length) {j : Nat} (hj : pg N j) (hv : (F j).lv = (F i).lv + 1) : lo j ≠ (F i).bord := by
  intro q
  obtain ⟨k, r, hr⟩ := (h.ok j hj).first (by omega)
  obtain ⟨d, d1, d2, d3, d4⟩ := h.kid j hj (by omega) (noE, k) (by rw [hr]; exact List.mem_cons_self ..)
  rw [if_pos rfl, q] at d4
  have hb := (h.ok i hp).bord hn
  have di : i ≠ d := fun z => by rw [← z] at d4; rw [d4] at hb; exact En.lt_irrefl _ hb.2.1
  rcases h.apart i d hp d2 di (by omega) with ⟨a, b⟩ | ⟨a, b⟩
  · rw [d4] at b
    rcases hb.2.2 with z | z
    · exact a z
    · exact b z
  · rcases (h.ok d d2).hiok with z | z
    · exact a z
    · rw [d4] at z
      exact b (En.lt_trans hb.2.1 z.2)
end
end Go.Proofs.YthjjkhacniebiaaGreat
