/- The walk of LocksFree. -/
import Derived.Test.YtmmhmgndokaklaaLSame
import Derived.Deep.RegionWith
namespace Go.Proofs.Ytmmhmgndokaklaa
open Go.RowKit Go.Maps

/-- Who is told, and what he waited for. -/
structure Told (T : Tb) (who : Int) (L : List Int) (i : Nat) (P : List (Int × ByteArray)) : Prop where
  sub : (P.map (·.1)).Sublist (L.take i)
  mem : ∀ a, a ∈ L.take i → (∃ k, T.wait a = some k ∧ T.hold k = some who) → a ∈ P.map (·.1)
  ok : ∀ p ∈ P, T.wait p.1 = some p.2 ∧ T.hold p.2 = some who
theorem Told.start (T : Tb) (who : Int) (L : List Int) : Told T who L 0 [] := ⟨by simp, by simp, by simp⟩
theorem Told.len {T : Tb} {who : Int} {L : List Int} {i : Nat} {P : List (Int × ByteArray)} (h : Told T who L i P) : P.length ≤ L.length := by
  have := h.sub.length_le
  rw [List.length_map, List.length_take] at this
  omega
theorem Told.add {T : Tb} {who : Int} {L : List Int} {i : Nat} {P : List (Int × ByteArray)} (h : Told T who L i P) {z : Int} {k : ByteArray} (hi : i < L.length) (hz : L[i] = z) (h1 : T.wait z = some k) (h2 : T.hold k = some who) : Told T who L (i + 1) (P ++ [(z, k)]) := by
  have e : L.take (i + 1) = L.take i ++ [z] := by rw [List.take_succ_eq_append_getElem hi, hz]
  refine ⟨?_, fun a ha hq => ?_, fun p hp => ?_⟩
  · rw [e, List.map_append]
    exact h.sub.append (List.Sublist.refl _)
  · rw [e] at ha
    rw [List.map_append]
    rcases List.mem_append.1 ha with ha | ha
    · exact List.mem_append.2 (.inl (h.mem a ha hq))
    · exact List.mem_append.2 (.inr (by simpa using ha))
  · rcases List.mem_append.1 hp with hp | hp
    · exact h.ok p hp
    · simp at hp
      subst hp
      exact ⟨h1, h2⟩
theorem Told.skip {T : Tb} {who : Int} {L : List Int} {i : Nat} {P : List (Int × ByteArray)} (h : Told T who L i P) {z : Int} {k : ByteArray} (hi : i < L.length) (hz : L[i] = z) (h1 : T.wait z = some k) (h2 : ¬ T.hold k = some who) : Told T who L (i + 1) P := by
  have e : L.take (i + 1) = L.take i ++ [z] := by rw [List.take_succ_eq_append_getElem hi, hz]
  refine ⟨?_, fun a ha hq => ?_, h.ok⟩
  · rw [e]
    exact h.sub.trans (List.sublist_append_left _ _)
  · rw [e] at ha
    rcases List.mem_append.1 ha with ha | ha
    · exact h.mem a ha hq
    · simp at ha
      subst ha
      obtain ⟨k', e1, e2⟩ := hq
      rw [h1] at e1
      cases e1
      exact absurd e2 h2
theorem Tb.Ok.self {T : Tb} (h : T.Ok) {a : Int} (hn : T.Next a a) : False := by
  obtain ⟨r, hr⟩ := h.rank
  have := hr a a hn
  omega
theorem Told.free {T : Tb} {who : Int} {L : List Int} {i : Nat} {P : List (Int × ByteArray)} (h : Told T who L i P) (hT : T.Ok) (hL : WaitIs T L) (hi : L.length ≤ i) : FreeIs (T.quit who) who (P.map (·.1)) := by
  have e : L.take i = L := List.take_of_length_le hi
  have hs := h.sub
  have hm := h.mem
  rw [e] at hs hm
  refine ⟨hL.up.sublist hs, fun a => ⟨fun ha => ?_, fun ⟨k, h1, h2⟩ => ?_⟩⟩
  · obtain ⟨p, hp, rfl⟩ := List.mem_map.1 ha
    obtain ⟨h1, h2⟩ := h.ok p hp
    refine ⟨p.2, ?_, h2⟩
    have : p.1 ≠ who := fun e => hT.self (a := p.1) ⟨p.2, h1, by rw [e]; exact h2⟩
    simp [Tb.quit, this, h1]
  · simp only [Tb.quit] at h1
    split at h1
    · cases h1
    · exact hm a ((hL.mem a).2 ⟨k, h1⟩) ⟨k, h1, h2⟩
/-- The state of the second loop. -/
structure Fr (w W : World) (t h m n : Nat) (T : Tb) (who : Int) (L : List Int) (M : List ByteArray) (B1 B0 : Nat) (vl vm vt vk : Value) (i : Nat) (P : List (Int × ByteArray)) : Prop where
  lk : Lk w W t h m n T
  rl : IRow W B1 vl L
  rm : SRow W B1 vm M
  rt : IRow W B0 vt (P.map (·.1))
  rs : SRow W B0 vk (P.map (·.2))
  lb : ∀ b, vl.ownBlock = some b → b < B0
  mb : ∀ b, vm.ownBlock = some b → b < B0
  tb : t < B0 ∧ h < B0 ∧ m < B0 ∧ w.heap.size ≤ B0
  ap : ∀ b, vt.ownBlock = some b → vk.ownBlock ≠ some b
  told : Told T who L i P
  bb : h < B1 ∧ m < B1
theorem Fr.more {w W W' : World} {t h m n : Nat} {T : Tb} {who : Int} {L : List Int} {M : List ByteArray} {B1 B0 : Nat} {vl vm vt vk : Value} {i : Nat} {P : List (Int × ByteArray)} (H : Fr w W t h m n T who L M B1 B0 vl vm vt vk i P) (ho : Only (fun _ => False) W W') : Fr w W' t h m n T who L M B1 B0 vl vm vt vk i P :=
  ⟨H.lk.more ho, H.rl.kept ho (fun _ _ => id), H.rm.kept ho (fun _ _ => id), H.rt.kept ho (fun _ _ => id), H.rs.kept ho (fun _ _ => id), H.lb, H.mb, H.tb, H.ap, H.told, H.bb⟩
theorem Lk.kept {w W W' : World} {t h m n : Nat} {T : Tb} {S : Nat → Prop} (H : Lk w W t h m n T) (ho : Only S W W') (h0 : ¬ S t) (h1 : ¬ S h) (h2 : ¬ S m) (hS : ∀ i, i < w.heap.size → ¬ S i) : Lk w W' t h m n T :=
  ⟨H.tab.kept ho h0 h1 h2, H.only.trans ho (fun i hi e => hS i hi e), H.lt0, H.lt1, H.lt2⟩
theorem Fr.addT {w W W' : World} {t h m n : Nat} {T : Tb} {who : Int} {L : List Int} {M : List ByteArray} {B1 B0 : Nat} {vl vm vt vk vt' : Value} {i : Nat} {P : List (Int × ByteArray)} {z : Int} {k : ByteArray} (H : Fr w W t h m n T who L M B1 B0 vl vm vt vk i P)
    (hrow : IRow W' B0 vt' (P.map (·.1) ++ [z])) (hg : W.grownBy W' vt.ownBlock) (hloc : vt'.ownBlock = vt.ownBlock ∨ vt'.ownBlock = some W.heap.size) :
    Lk w W' t h m n T ∧ IRow W' B1 vl L ∧ SRow W' B1 vm M ∧ IRow W' B0 vt' ((P ++ [(z, k)]).map (·.1)) ∧ SRow W' B0 vk (P.map (·.2)) ∧ (∀ b, vt'.ownBlock = some b → vk.ownBlock ≠ some b) := by
  have ho : Only (fun i => vt.ownBlock = some i) W W' := Only.grown hg (fun k hk => hk)
  have hb : ∀ b, vt.ownBlock = some b → B0 ≤ b := fun b hb => (H.rt.low b hb).1
  have htb := H.tb
  refine ⟨H.lk.kept ho (fun e => by have := hb _ e; omega) (fun e => by have := hb _ e; omega) (fun e => by have := hb _ e; omega) (fun i hi e => by have := hb _ e; omega), H.rl.kept ho (fun b hb' e => by have := hb _ e; have := H.lb b hb'; omega), H.rm.kept ho (fun b hb' e => by have := hb _ e; have := H.mb b hb'; omega), by simpa using hrow, H.rs.kept ho (fun b hb' e => H.ap b e hb'), fun b hb' e => ?_⟩
  rcases hloc with h1 | h1
  · exact H.ap b (h1 ▸ hb') e
  · rw [h1] at hb'
    cases hb'
    have := (H.rs.low _ e).2
    omega
/-- The state behind the release. -/
structure Fs (w W : World) (t h m n : Nat) (T : Tb) (M : List ByteArray) (B1 B0 : Nat) (vm vt vk : Value) (tl : List Int) (wl : List ByteArray) : Prop where
  lk : Lk w W t h m n T
  rm : SRow W B1 vm M
  rt : IRow W B0 vt tl
  rs : SRow W B0 vk wl
theorem Fs.more {w W W' : World} {t h m n : Nat} {T : Tb} {M : List ByteArray} {B1 B0 : Nat} {vm vt vk : Value} {tl : List Int} {wl : List ByteArray} (H : Fs w W t h m n T M B1 B0 vm vt vk tl wl) (ho : Only (fun _ => False) W W') : Fs w W' t h m n T M B1 B0 vm vt vk tl wl :=
  ⟨H.lk.more ho, H.rm.kept ho (fun _ _ => id), H.rt.kept ho (fun _ _ => id), H.rs.kept ho (fun _ _ => id)⟩
theorem Fr.freed {w W W' : World} {t h m n : Nat} {T T' : Tb} {who : Int} {L : List Int} {M : List ByteArray} {B1 B0 : Nat} {vl vm vt vk : Value} {i : Nat} {P : List (Int × ByteArray)} {tl : List Int} {wl : List ByteArray} (H : Fr w W t h m n T who L M B1 B0 vl vm vt vk i P) (e1 : P.map (·.1) = tl) (e2 : P.map (·.2) = wl) (hL : Lk w W' t h m n T') (hk : Kp h m W W') : Fs w W' t h m n T' M B1 B0 vm vt vk tl wl := by
  subst e1
  subst e2
  have h1 := H.bb
  have h2 := H.tb
  refine ⟨hL, H.rm.kept hk.only (fun b hb e => ?_), H.rt.kept hk.only (fun b hb e => ?_), H.rs.kept hk.only (fun b hb e => ?_)⟩
  · have := (H.rm.low b hb).1
    rcases e with e | e <;> omega
  · have := (H.rt.low b hb).1
    rcases e with e | e <;> omega
  · have := (H.rs.low b hb).1
    rcases e with e | e <;> omega
theorem Told.pair {T : Tb} {who : Int} {L : List Int} {i : Nat} {P : List (Int × ByteArray)} {tl : List Int} {wl : List ByteArray} (h : Told T who L i P) (e1 : P.map (·.1) = tl) (e2 : P.map (·.2) = wl) (hq : 0 < tl.length) : ∃ (h1 : 0 < tl.length) (h2 : 0 < wl.length), T.wait tl[0] = some wl[0] ∧ T.hold wl[0] = some who := by
  subst e1
  subst e2
  cases P with
  | nil => simp at hq
  | cons p P => exact ⟨by simp, by simp, h.ok p (by simp)⟩
theorem heldIs_freed {T : Tb} {who : Int} {L : List ByteArray} (h : HeldIs (T.freed who) who L) : L.length = 0 := by
  cases L with
  | nil => rfl
  | cons a l => exact absurd rfl (Tb.freed_hold.1 ((h.mem a).1 (by simp))).2
theorem freed_wait {T : Tb} {who a : Int} {L : List Int} (h : FreeIs (T.quit who) who L) (ha : a ∈ L) : (T.freed who).wait a = none := by
  obtain ⟨k, h1, h2⟩ := (h.mem a).1 ha
  show ((T.quit who).loose who).wait a = none
  cases e : ((T.quit who).loose who).wait a with
  | none => rfl
  | some k' =>
    obtain ⟨e1, e2⟩ := Tb.loose_wait.1 e
    rw [h1] at e1
    cases e1
    exact absurd h2 e2
theorem fr_addS {w W W' : World} {t h m n : Nat} {T : Tb} {L : List Int} {M : List ByteArray} {B1 B0 : Nat} {vl vm vt vk vk' : Value} {P : List (Int × ByteArray)} {z : Int} {k : ByteArray} (lb : ∀ b, vl.ownBlock = some b → b < B0) (mb : ∀ b, vm.ownBlock = some b → b < B0) (tb : t < B0 ∧ h < B0 ∧ m < B0 ∧ w.heap.size ≤ B0)
    (lk : Lk w W t h m n T) (rl : IRow W B1 vl L) (rm : SRow W B1 vm M) (rt : IRow W B0 vt ((P ++ [(z, k)]).map (·.1))) (rs : SRow W B0 vk (P.map (·.2))) (ap : ∀ b, vt.ownBlock = some b → vk.ownBlock ≠ some b)
    (hrow : SRow W' B0 vk' (P.map (·.2) ++ [k])) (hg : W.grownBy W' vk.ownBlock) (hloc : vk'.ownBlock = vk.ownBlock ∨ vk'.ownBlock = some W.heap.size) :
    Lk w W' t h m n T ∧ IRow W' B1 vl L ∧ SRow W' B1 vm M ∧ IRow W' B0 vt ((P ++ [(z, k)]).map (·.1)) ∧ SRow W' B0 vk' ((P ++ [(z, k)]).map (·.2)) ∧ (∀ b, vt.ownBlock = some b → vk'.ownBlock ≠ some b) := by
  have ho : Only (fun i => vk.ownBlock = some i) W W' := Only.grown hg (fun k hk => hk)
  have hb : ∀ b, vk.ownBlock = some b → B0 ≤ b := fun b hb => (rs.low b hb).1
  refine ⟨lk.kept ho (fun e => by have := hb _ e; omega) (fun e => by have := hb _ e; omega) (fun e => by have := hb _ e; omega) (fun i hi e => by have := hb _ e; omega), rl.kept ho (fun b hb' e => by have := hb _ e; have := lb b hb'; omega), rm.kept ho (fun b hb' e => by have := hb _ e; have := mb b hb'; omega), rt.kept ho (fun b hb' e => ap b hb' e), by simpa using hrow, fun b hb' e => ?_⟩
  rcases hloc with h1 | h1
  · exact ap b hb' (h1 ▸ e)
  · rw [h1] at e
    cases e
    have := (rt.low _ hb').2
    omega
set_option maxRecDepth 100000 in
set_option maxHeartbeats 3200000 in
theorem free_law (w : World) (B : Nat) (ao : Option Addr) (n cap : Nat) (C : Nat → Bool) (X : Nat → Int) (S : Nat → ByteArray) (who : Int) (hI : Ops w B ao n C X S) (hn : n ≤ 4398046510976) (hwho : N64 who) :
    Calls Try.prog 5 #[.slice ao n cap, .int .i64 who] w fun e w' => e = .returned (.bool true) ∧ Only (fun _ => False) w w' := by
  obtain ⟨i0, hi, hz0, hz1, hz2⟩ := info_parts Try.infoInt
  obtain ⟨i1, hy, hy0, hy1, hy2⟩ := info_parts Try.infoStr
  have HI := hide hI
  have HWHO := hide hwho
  clear hI hwho
  go_enter Try.func5, Try.ntmps5
  go_wp2_with fail
  refine (lk_new w).mono ?_
  rintro e w1 ⟨t, h, m, rfl, H1⟩
  have HK1 := hide H1
  clear H1
  go_wp2_with fail
  go_loopw [6] (fun y wr => ∃ (j : Nat) (T : Tb), j ≤ n ∧ y = .int .i64 (j : Int) ∧ Hid (Lk w wr t h m j T)) (fun y _ => n - (intOf y).toNat)
  case atStart => exact ⟨0, _, by omega, rfl, HK1⟩
  case round =>
    clear HK1
    obtain ⟨j, T, hj, rfl, HK⟩ := hrel
    by_cases hlt : j < n
    · obtain ⟨o, e1, hc⟩ := (HI.out.more HK.out.only).at_ (by omega)
      obtain ⟨k0, k1, k2⟩ := hc j hlt
      obtain ⟨hx, hs⟩ := HI.out.wf j hlt
      obtain ⟨c, hC⟩ : ∃ c, C j = c := ⟨_, rfl⟩
      obtain ⟨x, hX⟩ : ∃ x, X j = x := ⟨_, rfl⟩
      obtain ⟨s, hS⟩ : ∃ s, S j = s := ⟨_, rfl⟩
      rw [hC] at k0
      rw [hX] at k1 hx
      rw [hS] at k2 hs
      have HX := hide hx
      have HS := hide hs
      subst e1
      clear hC hX hS hc hx hs
      cases c
      · have HTR := hide (lk_try (HK.out.more (Only.drew _ _)) x s HX.out HS.out (by omega))
        have k1d : wr.drew.cell? ⟨B, o + j * 3 + 1, none⟩ = some (.int .i64 x) := k1
        have k2d : wr.drew.cell? ⟨B, o + j * 3 + 2, none⟩ = some (.string s) := k2
        go_upto_region 9 with fail
        go_region_with (go_at_call 12; refine HTR.out.mono ?_; rintro e w3 ⟨rfl, H3, hkp⟩; have HK3 := hide H3; clear H3 hkp)
        all_goals go_wp2_with fail
        all_goals exact ⟨⟨j + 1, _, by omega, by go_num, HK3⟩, by simp [intOf]; omega⟩
      · have HTR := hide (lk_release HK.out x HX.out (by omega))
        go_wp2_with fail
        refine HTR.out.mono ?_
        rintro e w3 ⟨v, L, rfl, _, _, _, H3, hkp⟩
        have H4 := hide (H3.mono (n' := j + 1) (by omega))
        clear H3 hkp
        go_wp2_with fail
        exact ⟨⟨j + 1, _, by omega, by go_num, H4⟩, by simp [intOf]; omega⟩
    · go_wp2_with fail
      refine (lk_held HK.out who (by omega)).mono ?_
      rintro e w3 ⟨vm, M, rfl, hM, hMR, hMn, H3, hO3⟩
      obtain ⟨am, cm, rfl⟩ := hMR.form
      have HM := hide hM
      have HK3 := hide H3
      obtain ⟨B1, hB1⟩ : ∃ B1, wr.heap.size = B1 := ⟨_, rfl⟩
      rw [hB1] at hMR
      have HMR : Hid (SRow w3 B1 (.slice am M.length cm) M) := hMR
      have HB1 : Hid (h < B1 ∧ m < B1) := by rw [← hB1]; exact HK.out.tab.sizes.2
      have HB13 : Hid (B1 ≤ w3.heap.size) := by rw [← hB1]; exact hO3.size
      clear hM hMR H3 hO3 HK hB1
      go_wp2_with fail
      refine (lk_waiting HK3.out (by omega)).mono ?_
      rintro e w4 ⟨vl, L, rfl, hL, hLR, hLn, H4, hO4⟩
      obtain ⟨al, cl, rfl⟩ := hLR.form
      have HL := hide hL
      have hs4 := H4.tab.sizes
      have HF4 : Hid (Fr w w4 t h m j T who L M B1 w4.heap.size (.slice al L.length cl) (.slice am M.length cm) (.slice none 0 0) (.slice none 0 0) 0 []) := by
        refine ⟨H4, hLR.base HB13.out, HMR.out.kept hO4 (fun _ _ => id), IRow.nil _ _, SRow.nil _ _, fun b hb => (hLR.low b hb).2, fun b hb => ?_, ⟨hs4.1, hs4.2.1, hs4.2.2, H4.only.size⟩, fun b hb => ?_, Told.start T who L, HB1.out⟩
        · exact Nat.lt_of_lt_of_le (HMR.out.low b hb).2 hO4.size
        · cases hb
      obtain ⟨B0, hB0⟩ : ∃ B0, w4.heap.size = B0 := ⟨_, rfl⟩
      rw [hB0] at HF4
      have HB0 : Hid (B0 ≤ w4.heap.size) := by rw [hB0]; exact Nat.le_refl _
      clear hL hLR H4 hO4 HK3 HMR hs4 hB0
      go_wp2_with fail
      go_loopw [8, 10, 11] (fun vk vt y wr => ∃ (i : Nat) (P : List (Int × ByteArray)), i ≤ L.length ∧ y = .int .i64 (i : Int) ∧ Hid (Fr w wr t h m j T who L M B1 B0 (.slice al L.length cl) (.slice am M.length cm) vt vk i P) ∧ Hid (B0 ≤ wr.heap.size)) (fun _ _ y _ => L.length - (intOf y).toNat)
      case atStart => exact ⟨0, [], by omega, rfl, HF4, HB0⟩
      case round =>
        clear HF4 HB0
        obtain ⟨i, P, hi0, rfl, HF, HB0⟩ := hrel
        by_cases hil : i < L.length
        · obtain ⟨g, e1, hgb, hgl, hcg⟩ := HF.out.rl.at_ hil
          obtain ⟨z, hz⟩ : ∃ z, L[i] = z := ⟨_, rfl⟩
          rw [hz] at hcg
          have HZE := hide hz
          have hzm : z ∈ L := by rw [← hz]; exact List.getElem_mem hil
          obtain ⟨kz, hkz⟩ := (HL.out.mem z).1 hzm
          obtain ⟨b, hb⟩ := HF.out.lk.tab.ok.held z kz hkz
          have HKZ := hide hkz
          have HHB := hide hb
          have hz64 := (HF.out.lk.tab.ok.w64 z kz hkz).1
          have hk64 := (HF.out.lk.tab.ok.w64 z kz hkz).2
          have hwz := lk_waits HF.out.lk z hz64
          rw [hkz] at hwz
          simp only [Option.getD_some, Option.isSome_some] at hwz
          have HNE : Hid (b = who → ¬ z = who) := fun e1 e2 => HF.out.lk.tab.ok.self (a := z) ⟨kz, hkz, by rw [hb, e1, e2]⟩
          have HWZ := hide hwz
          have HK64 := hide hk64
          subst e1
          clear hz hzm hkz hb hz64 hwz hk64
          go_wp2_with fail
          refine HWZ.out.mono ?_
          rintro e w6 ⟨rfl, H6, hO6⟩
          have HF6 := hide (HF.out.more hO6)
          have HB6 : Hid (B0 ≤ w6.heap.size) := Nat.le_trans HB0.out hO6.size
          have hcg6 : w6.cell? ⟨g, i, none⟩ = some (.int .i64 z) := (hO6.cell (p := ⟨g, i, none⟩) hgl id).trans hcg
          have hho := lk_holder H6 kz HK64.out
          rw [HHB.out] at hho
          simp only [Option.getD_some, Option.isSome_some] at hho
          have HHO := hide hho
          clear H6 hO6 HF HB0 HWZ hcg hho
          go_wp2_with fail
          refine HHO.out.mono ?_
          rintro e wx ⟨rfl, hw⟩
          obtain rfl := hw.symm
          clear hw HHO
          by_cases hbw : b = who
          · have hzw := HNE.out hbw
            have hbb : (b == who) = true := by simp [hbw]
            have hzb : (z != who) = true := by simp [hzw]
            have HBW := hide hbw
            have hpl := HF6.out.told.len
            have hb06 := HB6.out
            clear hbw hzw
            go_upto_region 21 with (first
              | (at_builtin; go_must (refine wpList_append_own_at _ rfl (.tmp 94) (.tmp 99) 31 rfl B0 3 i0 (.int .i64 0) 1 8 Try.underlying31 hi hz0 hz1 hz2 rfl (by decide) _ _ _ rfl (World.ownsRow.alloc HF6.out.rt _) ⟨w6.heap.size, 0, none⟩ 1 1 [.int .i64 z] rfl rfl (cell_one_new _ _ _) (by simp [Value.oneCell']) (by rw [List.length_map]; unfold maxLen at *; omega) (by rw [List.length_map]; omega) (by simp; omega) ?_); intro v' w7 hown' hg7 hnil7 hloc7; go_frame))
            obtain ⟨q1, q2, q3, q4, q5, q6⟩ := (HF6.out.more (Only.alloc (fun _ => False) w6 (.cells #[.int .i64 z] 3))).addT (k := kz) (z := z) (vt' := v') (W' := w7) (by unfold IRow; rw [List.length_append, List.map_append]; exact hown') hg7 hloc7
            have hs7 : w6.heap.size ≤ w7.heap.size := by have := hg7.size; simp at this; omega
            have HF7 := hide (And.intro q1 (And.intro q2 (And.intro q3 (And.intro q4 (And.intro q5 q6)))))
            have HTO := hide (HF6.out.told.add hil HZE.out HKZ.out (HHB.out.trans (by rw [HBW.out])))
            have HBS := hide (And.intro HF6.out.lb (And.intro HF6.out.mb HF6.out.tb))
            clear q1 q2 q3 q4 q5 q6 hown' hg7 hnil7 hloc7 HF6 HB6 hcg6
            go_wp2_with (first
              | (at_builtin; go_must (refine wpList_append_own_at _ rfl (.tmp 101) (.tmp 103) 41 rfl B0 9 i1 (.string ⟨#[]⟩) 1 16 Try.underlying41 hy hy0 hy1 hy2 rfl (by decide) _ _ _ rfl (World.ownsRow.alloc HF7.out.2.2.2.2.1 _) ⟨w7.heap.size, 0, none⟩ 1 1 [.string kz] rfl rfl (cell_one_new _ _ _) (by simp [Value.oneCell']) (by rw [List.length_map]; unfold maxLen at *; omega) (by rw [List.length_map]; omega) (by simp; omega) ?_); intro v8 w8 hown8 hg8 hnil8 hloc8; go_frame))
            obtain ⟨q1, q2, q3, q4, q5, q6⟩ := HF7.out
            obtain ⟨s1, s2, s3, s4, s5, s6⟩ := fr_addS HBS.out.1 HBS.out.2.1 HBS.out.2.2 (q1.more (Only.alloc (fun _ => False) w7 (.cells #[.string kz] 9))) (q2.kept (Only.alloc (fun _ => False) _ _) (fun _ _ => id)) (q3.kept (Only.alloc (fun _ => False) _ _) (fun _ _ => id)) (q4.kept (Only.alloc (fun _ => False) _ _) (fun _ _ => id)) (q5.kept (Only.alloc (fun _ => False) _ _) (fun _ _ => id)) q6 (vk' := v8) (W' := w8) (z := z) (k := kz) (by unfold SRow; rw [List.length_append, List.map_append]; exact hown8) hg8 hloc8
            have hs8 : w7.heap.size ≤ w8.heap.size := by have := hg8.size; simp at this; omega
            exact ⟨⟨i + 1, P ++ [(z, kz)], by omega, by go_num, ⟨s1, s2, s3, s4, s5, HBS.out.1, HBS.out.2.1, HBS.out.2.2, s6, HTO.out, HB1.out⟩, hide (by omega)⟩, by simp [intOf]; omega⟩
          · have hbb : (b == who) = false := by simp [hbw]
            have HTO := hide (HF6.out.told.skip hil HZE.out HKZ.out (fun e => hbw (Option.some.inj (HHB.out.symm.trans e))))
            clear hbw
            go_wp2_with fail
            have hf := HF6.out
            exact ⟨⟨i + 1, P, by omega, by go_num, ⟨hf.lk, hf.rl, hf.rm, hf.rt, hf.rs, hf.lb, hf.mb, hf.tb, hf.ap, HTO.out, HB1.out⟩, HB6⟩, by simp [intOf]; omega⟩
        · obtain ⟨tl, htl⟩ : ∃ tl, P.map (·.1) = tl := ⟨_, rfl⟩
          obtain ⟨wl, hwl⟩ : ∃ wl, P.map (·.2) = wl := ⟨_, rfl⟩
          have HFI : Hid (FreeIs (T.quit who) who tl) := by rw [← htl]; exact HF.out.told.free HF.out.lk.tab.ok HL.out (by omega)
          have HPR := hide (fun h0 => HF.out.told.pair htl hwl h0)
          obtain ⟨aT, cT, hvt⟩ := HF.out.rt.form
          obtain ⟨aK, cK, hvk⟩ := HF.out.rs.form
          rw [htl] at hvt
          rw [hwl] at hvk
          have HE1 := hide htl
          have HE2 := hide hwl
          have HOKT := hide HF.out.lk.tab.ok
          subst hvt
          subst hvk
          clear htl hwl
          go_wp2_with fail
          refine (lk_release HF.out.lk who HWHO.out (by omega)).mono ?_
          rintro e w6 ⟨v6, L6, rfl, hL6, hI6, hLn6, H6, hkp6⟩
          have eL : L6 = tl := hL6.one HFI.out
          subst eL
          obtain ⟨a6, c6, rfl⟩ := hI6.form
          have HS6 := hide (HF.out.freed HE1.out HE2.out H6 hkp6)
          have HI6 := hide hI6
          have HPL : Hid (L6.length ≤ 4398046511104) := Nat.le_trans hLn6 (by omega)
          clear hL6 hI6 H6 hkp6 HF HB0
          go_wp2_with fail
          refine (sameI_true w6 _ _ _ _ _ _ _ HI6.out HS6.out.rt HPL.out).mono ?_
          rintro e w7 ⟨rfl, hO7⟩
          have HS7 := hide (HS6.out.more hO7)
          clear hO7 HS6 HI6
          go_wp2_with fail
          refine (lk_held HS7.out.lk who (by omega)).mono ?_
          rintro e w8 ⟨v8, L8, rfl, hL8, hI8, _, _, hO8⟩
          have e8 := heldIs_freed hL8
          obtain ⟨a8, c8, rfl⟩ := hI8.form
          rw [e8]
          have HS8 := hide (HS7.out.more hO8)
          clear hL8 hI8 hO8 HS7 e8
          go_wp2_with fail
          go_loopw [16] (fun y wr => ∃ (q : Nat), q ≤ M.length ∧ y = .int .i64 (q : Int) ∧ Hid (Fs w wr t h m j (T.freed who) M B1 B0 (.slice am M.length cm) (.slice aT L6.length cT) (.slice aK wl.length cK) L6 wl)) (fun y _ => M.length - (intOf y).toNat)
          case atStart => exact ⟨0, by omega, rfl, HS8⟩
          case round =>
            clear HS8
            obtain ⟨q, hq, rfl, HS⟩ := hrel
            by_cases hqm : q < M.length
            · obtain ⟨g, e1, _, _, hcg⟩ := HS.out.rm.at_ hqm
              obtain ⟨z, hz⟩ : ∃ z, M[q] = z := ⟨_, rfl⟩
              rw [hz] at hcg
              have hzm : T.hold z = some who := (HM.out.mem z).1 (by rw [← hz]; exact List.getElem_mem hqm)
              have hho := lk_holder HS.out.lk z (HOKT.out.h64 z who hzm)
              rw [Tb.freed_none (.inr hzm)] at hho
              simp only [Option.getD_none, Option.isSome_none] at hho
              have HHO := hide hho
              subst e1
              clear hz hzm hho
              go_wp2_with fail
              refine HHO.out.mono ?_
              rintro e wx ⟨rfl, hw⟩
              obtain rfl := hw.symm
              clear hw HHO
              go_wp2_with fail
              exact ⟨⟨q + 1, by omega, by go_num, HS⟩, by simp [intOf]; omega⟩
            · go_wp2_with fail
              go_loopw [19] (fun y wr => ∃ (q : Nat), q ≤ L6.length ∧ y = .int .i64 (q : Int) ∧ Hid (Fs w wr t h m j (T.freed who) M B1 B0 (.slice am M.length cm) (.slice aT L6.length cT) (.slice aK wl.length cK) L6 wl)) (fun y _ => L6.length - (intOf y).toNat)
              case atStart => exact ⟨0, by omega, rfl, HS⟩
              case round =>
                clear HS
                obtain ⟨q2, hq2, rfl, HS⟩ := hrel
                by_cases hqt : q2 < L6.length
                · obtain ⟨g, e1, _, _, hcg⟩ := HS.out.rt.at_ hqt
                  obtain ⟨z, hz⟩ : ∃ z, L6[q2] = z := ⟨_, rfl⟩
                  rw [hz] at hcg
                  have hzm : z ∈ L6 := by rw [← hz]; exact List.getElem_mem hqt
                  obtain ⟨kz, hkz, _⟩ := (HFI.out.mem z).1 hzm
                  have hwz := lk_waits HS.out.lk z ((HOKT.out.quit who).w64 z kz hkz).1
                  rw [freed_wait HFI.out hzm] at hwz
                  simp only [Option.getD_none, Option.isSome_none] at hwz
                  have HWZ := hide hwz
                  subst e1
                  clear hz hzm hwz hkz
                  go_wp2_with fail
                  refine HWZ.out.mono ?_
                  rintro e w9 ⟨rfl, _, hO9⟩
                  have HS9 := hide (HS.out.more hO9)
                  clear hO9 HWZ
                  go_wp2_with fail
                  exact ⟨⟨q2 + 1, by omega, by go_num, HS9⟩, by simp [intOf]; omega⟩
                · by_cases h0 : 0 < L6.length
                  · obtain ⟨h1, h2, hp1, hp2⟩ := HPR.out h0
                    obtain ⟨g1, e1, _, _, hcg1⟩ := HS.out.rt.at_ h1
                    obtain ⟨g2, e2, _, _, hcg2⟩ := HS.out.rs.at_ h2
                    obtain ⟨z, hz⟩ : ∃ z, L6[0] = z := ⟨_, rfl⟩
                    obtain ⟨k, hk⟩ : ∃ k, wl[0] = k := ⟨_, rfl⟩
                    rw [hz] at hcg1 hp1
                    rw [hk] at hcg2 hp1 hp2
                    have hz64 := (HOKT.out.w64 z k hp1).1
                    have hk64 := (HOKT.out.w64 z k hp1).2
                    have HTR := hide (lk_try (HS.out.lk.more (Only.drew _ _)) z k hz64 hk64 (by omega))
                    obtain ⟨r1, r2, _⟩ := Tb.tryR_none (who := z) (Tb.freed_none (.inr hp2))
                    rw [r1, r2] at HTR
                    have hcd1 : wr.drew.cell? ⟨g1, 0, none⟩ = some (.int .i64 z) := hcg1
                    have hcd2 : wr.drew.cell? ⟨g2, 0, none⟩ = some (.string k) := hcg2
                    have h0' : (0 : Int) < (L6.length : Int) := by omega
                    have h2' : (0 : Int) < (wl.length : Int) := by omega
                    subst e1
                    subst e2
                    clear hz hk hp1 hp2 r1 r2 hz64 hk64 hcg1 hcg2
                    go_upto_region 37 with fail
                    go_region_with (go_at_call 12; refine HTR.out.mono ?_; rintro e w3 ⟨rfl, H3, hkp⟩; have HK3 := hide H3; clear H3 hkp)
                    all_goals go_wp2_with (first | (go_at_call 23; refine (lawake_any _).mono ?_; rintro e w9 ⟨rfl, hO⟩))
                    all_goals go_ret
                    all_goals exact ⟨rfl, HK3.out.only.trans hO (fun _ _ h => h)⟩
                  · go_wp2_with fail
                    refine (lawake_any wr).mono ?_
                    rintro e w9 ⟨rfl, hO⟩
                    go_wp2_with fail
                    go_ret
                    exact ⟨rfl, HS.out.lk.only.trans hO (fun _ _ h => h)⟩
end Go.Proofs.Ytmmhmgndokaklaa
