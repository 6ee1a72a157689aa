/- What the laws say of a leaf: Leave, Need, Hits, and an entry that goes out. -/
import Derived.Test.YthjjkhacniebiaaGreatK47
import Derived.Test.YthjjkhacniebiaaGreatK49
import Derived.Test.YthjjkhacniebiaaGreatK48
namespace Go.Proofs.YthjjkhacniebiaaGreat
open Go.RowKit

def zL : Pz := lf0.z 0 none 0
theorem Fst.start : Fst 2 (fun _ => lf0) (fun _ => noE) (fun _ => False) := by
  have one : ∀ i, pg 2 i → i = 1 := fun i h => by have := h.1; have := h.2; omega
  refine ⟨Nat.le_refl _, (fun _ h => h.elim), fun i _ => lf0_ok noE, fun _ _ => .inl rfl, fun _ _ _ => rfl, fun _ _ h => absurd rfl h, (fun _ _ h => by cases h), ?_, ⟨rfl, rfl⟩, fun j hj h => absurd (one j hj) h, ?_⟩
  · intro i j hi hj h _
    exact absurd ((one i hi).trans (one j hj).symm) h
  · intro i _ _ e
    constructor
    · intro h
      cases h
    · rintro ⟨h, _⟩
      exact h.elim
theorem Fz.start : Fz 2 (fun _ => lf0) [Pz.none, zL] := by
  refine ⟨rfl, fun i h => ?_⟩
  have : i = 1 := by have := h.1; have := h.2; omega
  subst this
  exact ⟨none, 0, by decide, rfl⟩
theorem Fm.start {K : Nat → Prop} (w1 : World) (hK : ∀ k, K k → k < w1.heap.size) : Fm K ((w1.alloc (.cells #[.int .i64 0, .int .i64 0, .int .i64 0, .int .i64 0, .string ⟨#[]⟩, .slice none 0 0, .int .i64 0, .int .i64 3, .int .i64 0, .int .i64 0, .string ⟨#[]⟩, .slice none 0 0] 24)).alloc (.cells #[.slice (some ⟨w1.heap.size, 0, none⟩) 2 2] 53)) (w1.heap.size + 1) w1.heap.size 2 [Pz.none, zL] := by
  have hA := onlyA w1 (.cells #[.int .i64 0, .int .i64 0, .int .i64 0, .int .i64 0, .string ⟨#[]⟩, .slice none 0 0, .int .i64 0, .int .i64 3, .int .i64 0, .int .i64 0, .string ⟨#[]⟩, .slice none 0 0] 24)
  have hB := onlyA (w1.alloc (.cells #[.int .i64 0, .int .i64 0, .int .i64 0, .int .i64 0, .string ⟨#[]⟩, .slice none 0 0, .int .i64 0, .int .i64 3, .int .i64 0, .int .i64 0, .string ⟨#[]⟩, .slice none 0 0] 24)) (.cells #[.slice (some ⟨w1.heap.size, 0, none⟩) 2 2] 53)
  have hr := World.ownsRow_lit (base := 0) (e := 24) (size := 6) w1 #[.int .i64 0, .int .i64 0, .int .i64 0, .int .i64 0, .string ⟨#[]⟩, .slice none 0 0, .int .i64 0, .int .i64 3, .int .i64 0, .int .i64 0, .string ⟨#[]⟩, .slice none 0 0] 2 (Nat.zero_le _) (by unfold maxLen; omega) rfl
  have e1 := Rg.new (w1.alloc (.cells #[.int .i64 0, .int .i64 0, .int .i64 0, .int .i64 0, .string ⟨#[]⟩, .slice none 0 0, .int .i64 0, .int .i64 3, .int .i64 0, .int .i64 0, .string ⟨#[]⟩, .slice none 0 0] 24)) #[.slice (some ⟨w1.heap.size, 0, none⟩) 2 2] 53
  rw [World.size_alloc] at e1
  have c := e1.cell 0 _ rfl
  have f := e1.fr 0 (by simp)
  rw [Nat.zero_add] at c f
  refine ⟨c, f, e1.lt, own_keptJ hr hB (fun _ _ h => h), by omega, ?_, fun k hk => by have h1 := hK k hk; have h2 := hA.size; have h3 := hB.size; omega⟩
  intro z hz
  simp only [List.mem_cons, List.not_mem_nil, or_false] at hz
  rcases hz with rfl | rfl
  · exact At.none _ _
  · exact ⟨⟨0, Strs.nil _ _ _, fun h => absurd h (by simp [zL, Nd.z, Nd.pg, lf0, Nd.items])⟩, ⟨fun _ => rfl, by simp [zL, Nd.z, Nd.pg, lf0, Nd.items], by simp [zL, Nd.z]⟩⟩
/-- A forest that was made since w, and nothing else was changed. -/
structure Sn (K : Nat → Prop) (w W : World) (f g cap : Nat) (zs : List Pz) (N : Nat) (F : Nat → Nd) (lo : Nat → En) (A : En → Prop) : Prop where
  fm : Fm K W f g cap zs
  fz : Fz N F zs
  fs : Fst N F lo A
  f0 : w.heap.size ≤ f
  g0 : w.heap.size ≤ g
variable {K : Nat → Prop} {w W : World} {f g cap : Nat} {zs : List Pz} {N : Nat} {F : Nat → Nd} {lo : Nat → En} {A : En → Prop}
theorem Sn.more (h : Sn K w W f g cap zs N F lo A) {W' : World} (ho : Only (fun _ => False) W W') : Sn K w W' f g cap zs N F lo A := ⟨h.fm.more ho, h.fz, h.fs, h.f0, h.g0⟩
/-- How far a forest has come. -/
structure Bd (N : Nat) (F : Nat → Nd) (i : Nat) : Prop where
  num : N ≤ 2 + 27 * i
  phi : phi F ≤ i
theorem Bd.lv {N : Nat} {F : Nat → Nd} {i : Nat} (h : Bd N F i) (hi : i ≤ 301) : (F 1).lv ≤ 25 := by
  have := h.phi
  unfold Go.Proofs.YthjjkhacniebiaaGreat.phi at this
  omega
theorem Bd.mono {N : Nat} {F : Nat → Nd} {i j : Nat} (h : Bd N F i) (hi : i ≤ j) : Bd N F j := ⟨by have := h.num; omega, by have := h.phi; omega⟩
theorem Sn.pre (h : Sn K w W f g cap zs N F lo A) {i : Nat} (hb : Bd N F i) (hi : i ≤ 301) {e : En} (he : e.ok = true) : EnPre K W f g cap zs N F lo A 0 e 0 := by
  have h1 := hb.lv hi
  have h2 := hb.num
  exact ⟨h.fm, h.fz, h.fs, Nat.zero_le _, by omega, by omega, he, fun _ => rfl, fun q => by omega⟩
/-- An entry comes in. -/
theorem sn_enters (h : Sn K w W f g cap zs N F lo A) {i : Nat} (hb : Bd N F i) (hi : i ≤ 300) {e : En} (he : e.ok = true) (t : Bool) :
    Calls Tryz.prog 17 #[.pointer (some ⟨f, 0, none⟩), .int .i64 0, .agg #[.string e.key, .int .i64 e.page, .int .i64 e.slot], .string e.enc, .bool t] W fun x w' => x = .returned (.bool true) ∧ ∃ g' cap' zs' N' F' lo', Sn K w w' f g' cap' zs' N' F' lo' (fun x => A x ∨ x = e) ∧ Bd N' F' (i + 1) ∧ Only (fun k => k = f ∨ k = g) W w' ∧ (g' = g ∨ W.heap.size ≤ g') := by
  have hE := h.pre hb (by omega) he
  have hc := enters_ok ((F 1).lv - 0) W f g cap zs N F lo A 0 e 0 t rfl hE
  have es : itB 0 (e, (0 : Int)) = e.enc := by unfold itB; rw [if_pos rfl]
  rw [es] at hc
  refine hc.mono ?_
  rintro x w' ⟨rfl, N', F', lo', zs', ⟨⟨g', cap', q1, q2⟩, q3⟩, q4, q5, q6, q7⟩
  have h1 := hb.lv (by omega)
  refine ⟨rfl, g', cap', zs', N', F', lo', ⟨q1, q4, q5.congr (fun y => ⟨?_, ?_⟩), h.f0, ?_⟩, ⟨?_, ?_⟩, q3, q2⟩
  · rintro (k | k)
    · exact .inl k
    · exact .inr ⟨rfl, k⟩
  · rintro (k | ⟨_, k⟩)
    · exact .inl k
    · exact .inr k
  · rcases q2 with k | k
    · rw [k]; exact h.g0
    · have h2 := (World.ownsRow.lt h.fm.row g rfl).2
      have h3 := h.g0
      omega
  · have := hb.num
    omega
  · have := hb.phi
    omega
/-- The way to an entry's leaf. -/
theorem sn_finds (h : Sn K w W f g cap zs N F lo A) {i : Nat} (hb : Bd N F i) (hi : i ≤ 301) {e : En} (he : e.ok = true) :
    Calls Tryz.prog 18 #[.pointer (some ⟨f, 0, none⟩), .int .i64 0, .agg #[.string e.key, .int .i64 e.page, .int .i64 e.slot]] W fun x w' => ∃ j : Nat, x = .returned (.int .i64 j) ∧ (pg N j ∧ (F j).lv = 0 ∧ (lo j).lt e ∧ byd (F j).hi e = false) ∧ Only (fun _ => False) W w' := by
  have hE := h.pre hb hi he
  exact finds_ok W f g cap zs N F lo A 0 e hE.hM hE.hZ hE.hF (by have := hE.num; omega) (by have := hE.top; omega) (Nat.zero_le _) he
end Go.Proofs.YthjjkhacniebiaaGreat

namespace Go.Proofs.YthjjkhacniebiaaGreat
open Go.RowKit

theorem enc_no {e : En} (h : e.ok = false) (W : World) : Calls Tryz.prog 16 #[.agg #[.string e.key, .int .i64 e.page, .int .i64 e.slot]] W fun x w' => x = .returned (.tuple #[.string ⟨#[]⟩, .int .i64 140]) ∧ Only (fun _ => False) W w' := by
  have q := encode_any e W
  rw [h] at q
  exact q
theorem enc_yes {e : En} (h : e.ok = true) (W : World) : Calls Tryz.prog 16 #[.agg #[.string e.key, .int .i64 e.page, .int .i64 e.slot]] W fun x w' => x = .returned (.tuple #[.string e.enc, .int .i64 0]) ∧ Only (fun _ => False) W w' := by
  have q := encode_any e W
  rw [h] at q
  exact q
end Go.Proofs.YthjjkhacniebiaaGreat

namespace Go.Proofs.YthjjkhacniebiaaGreat
open Go.RowKit

/-- A record that was laid in a new variable. -/
structure Rz (w5 W : World) (b : Nat) (r : Br) : Prop where
  at_ : Rg W b 0 r.cl
  only : Only (fun _ => False) w5 W
  new : w5.heap.size ≤ b
theorem Rz.of {w5 X : World} {b : Nat} (r : Br) (hR : Rg X b 0 Br.none.cl) (ho : Only (fun _ => False) w5 X) (hb : w5.heap.size ≤ b) : Rz w5 (X.setCells b 0 r.cl) b r :=
  ⟨hR.set _ rfl, ho.trans (only_setCells b r.cl 0 X) (fun k hk e => by omega), hb⟩
/-- What the law says of a leaf. -/
theorem Sn.leave {K : Nat → Prop} {w W : World} {f g cap : Nat} {zs : List Pz} {N : Nat} {F : Nat → Nd} {lo : Nat → En} {A : En → Prop} (h : Sn K w W f g cap zs N F lo A) {i : Nat} (hb : Bd N F i) (hi : i ≤ 301) {e : En} (he : e.ok = true) {j : Nat} (hj : pg N j) (hv : (F j).lv = 0) : ∃ z, ∃ hjl : j < zs.length, zs[j] = z ∧ (∀ W', Only (fun _ => False) W W' → Calls Tryz.prog 21 #[.agg z.ar, .int .i64 (j : Int), .agg #[.string e.key, .int .i64 e.page, .int .i64 e.slot]] W' fun x w' => x = .returned ((F j).lvV (j : Int) e) ∧ Only (fun _ => False) W' w') ∧ (∀ W', Only (fun _ => False) W W' → Calls Tryz.prog 7 #[.agg z.ar, .int .i64 (j : Int), .string e.enc] W' fun x w' => x = .returned (.tuple #[.int .i64 ((F j).need (j : Int) (some (e, 0))).1, .int .i64 ((F j).need (j : Int) (some (e, 0))).2]) ∧ Only (fun _ => False) W' w') ∧ Rg W g (j * 6) z.c := by
  have hE := h.pre hb hi he
  obtain ⟨ao, cp, B, hjl, hz, hg, hs, hf⟩ := hE.page hj
  refine ⟨zs[j], hjl, rfl, fun W' ho => ?_, fun W' ho => ?_, h.fm.rg j hjl⟩
  · have q := leave_nd W' 0 (j : Int) (F j) e B cp ao (hg.nm (hs.more ho)) (by decide) hv
    rw [hz]
    have el : ((F j).z 0 ao cp).ar = #[.int .i64 0, .int .i64 3, .int .i64 0, .int .i64 (F j).rt, .string (hiB (F j).hi), .slice ao (F j).items.length cp] := by
      show (#[.int .i64 0, .int .i64 3, .int .i64 ((F j).lv : Int), .int .i64 (F j).rt, .string (hiB (F j).hi), .slice ao (F j).items.length cp] : Array Value) = _
      rw [hv]; rfl
    rw [el]
    exact q
  · have q := need_nd W' 0 (j : Int) (F j) e.enc B cp ao (hg.nm (hs.more ho)) hf (by decide)
    have hb2 : brd (F j).lv e.enc = some (e, 0) := by
      unfold brd
      rw [if_pos hv, show decE (bl e.enc) = some e from decE_lay he]
      rfl
    rw [hb2] at q
    rw [hz]
    exact q
/-- An entry goes out. -/
theorem Sn.out {K : Nat → Prop} {w W : World} {f g cap : Nat} {zs : List Pz} {N : Nat} {F : Nat → Nd} {lo : Nat → En} {A : En → Prop} (h : Sn K w W f g cap zs N F lo A) {i : Nat} (hb : Bd N F i) (hi : i ≤ 301) {e : En} (he : e.ok = true) {j : Nat} (hj : pg N j) (hv : (F j).lv = 0) (hm : e ∈ (F j).es) : Calls Tryz.prog 22 #[.pointer (some ⟨f, 0, none⟩), .agg (Br.cells ⟨4, (j : Int), e.enc, none, 0, 0⟩)] W fun x w' => x = .returned (.bool true) ∧ ∃ g' cap' zs' F', Sn K w w' f g' cap' zs' N F' lo (fun x => A x ∧ x ≠ e) ∧ Bd N F' i ∧ Only (fun k => k = f ∨ k = g) W w' ∧ (g' = g ∨ W.heap.size ≤ g') := by
  have hE := h.pre hb hi he
  obtain ⟨ao, cp, B, hjl, hz, hg, hs, hf⟩ := hE.page hj
  have hl := h.fz.len
  have hn := hE.num
  refine (does_one W f g cap zs j 4 e.enc (((F j).rem e).pg 0) h.fm hj.1 hjl (.inr rfl) (by omega) (fun W' ho => ?_)).mono ?_
  · rw [hz]
    have q := changed_out W' (j : Int) (F j) e B cp ao hg (hs.more ho) hf hv hm
    have el : ((F j).z 0 ao cp).ar = #[.int .i64 0, .int .i64 3, .int .i64 0, .int .i64 (F j).rt, .string (hiB (F j).hi), .slice ao (F j).items.length cp] := by
      show (#[.int .i64 0, .int .i64 3, .int .i64 ((F j).lv : Int), .int .i64 (F j).rt, .string (hiB (F j).hi), .slice ao (F j).items.length cp] : Array Value) = _
      rw [hv]; rfl
    rw [el]
    exact q
  · rintro x w' ⟨rfl, ao', cp', ⟨⟨g', cap', q1, q2⟩, q3⟩⟩
    refine ⟨rfl, g', cap', _, upd F j ((F j).rem e), ⟨q1, h.fz.set j hj.2 _ ao' cp', h.fs.rem hj hv hm, h.f0, ?_⟩, ⟨hb.num, ?_⟩, q3, q2⟩
    · rcases q2 with k | k
      · rw [k]; exact h.g0
      · have h2 := (World.ownsRow.lt h.fm.row g rfl).2
        have h3 := h.g0
        omega
    · have hp := hb.phi
      unfold phi at hp ⊢
      by_cases q : 1 = j
      · rw [← q] at hv ⊢
        rw [upd_same]
        have := (remK_sub (F 1).ks e).length_le
        show 12 * (F 1).lv + (remK (F 1).ks e).length ≤ i
        omega
      · rw [upd_other _ _ q]; exact hp
/-- What Need answers of the leaf that an entry belongs into. -/
theorem need_leaf {X : Nd} {e : En} {j : Nat} (hv : X.lv = 0) (he : e.ok = true) (hb : byd X.hi e = false) : (e ∈ X.es ∧ X.need (j : Int) (some (e, 0)) = (0, 150)) ∨ (e ∉ X.es ∧ ∃ m : Int, X.need (j : Int) (some (e, 0)) = (m, 0) ∧ (m = 0 ∨ (m = 1 ∧ (j : Int) ≠ 1) ∨ (m = 2 ∧ (j : Int) = 1))) := by
  by_cases h : e ∈ X.es
  · refine .inl ⟨h, need_std ?_⟩
    unfold Nd.std
    rw [decide_eq_true_iff]
    exact ⟨.inl hv, h⟩
  · refine .inr ⟨h, ?_⟩
    have hs : X.std e = false := by
      unfold Nd.std
      rw [decide_eq_false_iff_not]
      exact fun q => h q.2
    have hn : ¬ X.bad e := by
      unfold Nd.bad
      rintro (q | q | q | q)
      · rw [he] at q; cases q
      · exact h q
      · rw [hb] at q; cases q.2
      · omega
    by_cases hz : (X.ins e 0).size ≤ 512
    · exact ⟨0, need_fit hs hn hz, .inl rfl⟩
    · by_cases q : (j : Int) = 1
      · exact ⟨2, by rw [need_full hs hn (by omega), if_pos q], .inr (.inr ⟨rfl, q⟩)⟩
      · exact ⟨1, by rw [need_full hs hn (by omega), if_neg q], .inr (.inl ⟨rfl, q⟩)⟩
theorem lvV_in {X : Nd} {e : En} {j : Int} (h : e ∈ X.es) : X.lvV j e = .tuple #[.agg (Br.cells ⟨4, j, e.enc, none, 0, 0⟩), .int .i64 0] := by unfold Nd.lvV; rw [if_pos h]
theorem lvV_out {X : Nd} {e : En} {j : Int} (h : e ∉ X.es) : X.lvV j e = .tuple #[.agg Br.none.cells, .int .i64 150] := by unfold Nd.lvV; rw [if_neg h]
/-- What the law says of the hits of a leaf. -/
theorem Sn.hits {K : Nat → Prop} {w W : World} {f g cap : Nat} {zs : List Pz} {N : Nat} {F : Nat → Nd} {lo : Nat → En} {A : En → Prop} (h : Sn K w W f g cap zs N F lo A) {i : Nat} (hb : Bd N F i) (hi : i ≤ 301) {e : En} (he : e.ok = true) {j : Nat} (hj : pg N j) (hv : (F j).lv = 0) (fk tk : ByteArray) : ∃ z, ∃ hjl : j < zs.length, zs[j] = z ∧ (∀ W', Only (fun _ => False) W W' → Calls Tryz.prog 19 #[.agg z.ar, .string fk, .string tk] W' fun x w' => HtR W' w' x (F j) fk tk) ∧ Rg W g (j * 6) z.c ∧ z.p.right = ((F j).rt : Int) := by
  have hE := h.pre hb hi he
  obtain ⟨ao, cp, B, hjl, hz, hg, hs, hf⟩ := hE.page hj
  refine ⟨zs[j], hjl, rfl, fun W' ho => ?_, h.fm.rg j hjl, ?_⟩
  · have q := hits_nd W' 0 (F j) fk tk B cp ao (hg.nm (hs.more ho)) (by decide) hv
    have el : ((F j).z 0 ao cp).ar = #[.int .i64 0, .int .i64 3, .int .i64 0, .int .i64 (F j).rt, .string (hiB (F j).hi), .slice ao (F j).items.length cp] := by
      show (#[.int .i64 0, .int .i64 3, .int .i64 ((F j).lv : Int), .int .i64 (F j).rt, .string (hiB (F j).hi), .slice ao (F j).items.length cp] : Array Value) = _
      rw [hv]; rfl
    rw [hz, el]
    exact q
  · rw [hz]
    rfl
end Go.Proofs.YthjjkhacniebiaaGreat
