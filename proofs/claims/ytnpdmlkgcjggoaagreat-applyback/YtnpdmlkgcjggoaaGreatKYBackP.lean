/- What undoes a mark gives the page back; what undoes an insert leaves a dead slot: as plain data. -/
import Derived.Test.YtnpdmlkgcjggoaaGreatK48
namespace Go.Proofs.YtnpdmlkgcjggoaaGreat
open Go.RowKit

/-- A record without its images. -/
def Rc.bare (R : Rc) : Rc := ⟨R.lsn, R.prev, R.next, R.kind, R.xid, R.page, R.slot, R.old, R.new, R.redo, R.data, R.slots, R.more, [], R.pages, R.txns⟩
/-- The record that undoes another one, at a later place. -/
def Rc.undo (R : Rc) (later : Int) : Rc := ⟨later, 0, R.prev, 6, R.xid, R.page, R.slot, if R.kind = 2 then R.new else 0, if R.kind = 2 then R.old else 0, 0, ⟨#[]⟩, [], [], [], [], []⟩
theorem doP_bare {p : Pg} {R : Rc} (hk : undK R.kind = true) (hl : p.lsn < R.lsn) : doP 16 p R.page R.bare = doneP R.bare (doesP 16 p R.bare) := by
  have hq : imP R.page R.bare.images = none := rfl
  unfold doP
  rw [hq]
  dsimp only
  refine if_pos ⟨?_, rfl, hl⟩
  show ownK R.kind = true
  unfold undK at hk
  unfold ownK
  rw [decide_eq_true_iff] at hk ⊢
  rcases hk with h | h
  · exact .inl h
  · exact .inr (.inl h)
theorem doP_undo {q : Pg} {R : Rc} {later : Int} (hl : q.lsn < later) : doP 16 q R.page (R.undo later) = doneP (R.undo later) (q.chg (undL (R.undo later) q.items), (undL (R.undo later) q.items).2) := by
  have hq : imP R.page (R.undo later).images = none := rfl
  have hd : doesP 16 q (R.undo later) = (q.chg (undL (R.undo later) q.items), (undL (R.undo later) q.items).2) := rfl
  unfold doP
  rw [hq]
  dsimp only
  rw [hd]
  exact if_pos ⟨by show ownK 6 = true; decide, rfl, hl⟩
theorem chgL_one {f : Chg} {s : Int} {l : List ByteArray} (h : (chgL f [s] l).2 = 0) : ∃ (i : Nat) (t : Tu), s = (i : Int) ∧ i < l.length ∧ decT (bl (itS l s)) = some t ∧ (f t).2 = 0 ∧ chgL f [s] l = (l.set i (f t).1, 0) := by
  rw [chgL_cons] at h ⊢
  by_cases hs : okS l.length s = true
  · rw [if_pos hs] at h ⊢
    have h2 := okS_iff.1 hs
    cases hd : decT (bl (itS l s)) with
    | none => rw [hd] at h; cases h
    | some t =>
      rw [hd] at h
      dsimp only at h ⊢
      by_cases hf : (f t).2 = 0
      · refine ⟨s.toNat, t, by omega, by omega, rfl, hf, ?_⟩
        rw [if_pos hf]
        rfl
      · rw [if_neg hf] at h
        exact absurd h hf
  · rw [if_neg hs] at h
    cases h
theorem chgL_at {f : Chg} {l : List ByteArray} {i : Nat} {t : Tu} (hi : i < l.length) (hd : decT (bl l[i]) = some t) (hf : (f t).2 = 0) : chgL f [(i : Int)] l = (l.set i (f t).1, 0) := by
  rw [chgL_cons, if_pos (okS_iff.2 ⟨by omega, by omega⟩), itS_at hi, hd]
  dsimp only
  rw [if_pos hf, Int.toNat_natCast]
  rfl
/-- What undoes a mark gives the page back. -/
theorem back_mark {p : Pg} {R : Rc} {later : Int} (hk : R.kind = 2) (hl : p.lsn < R.lsn) (hla : R.lsn < later) (h0 : (doP 16 p R.page R.bare).2 = 0) (hz : ¬ (R.old = 0 ∧ R.new = 0)) :
    doP 16 (doP 16 p R.page R.bare).1 R.page (R.undo later) = (p.at later, 0) := by
  rw [doP_bare (by unfold undK; rw [hk]; decide) hl] at h0 ⊢
  have hd : doesP 16 p R.bare = (p.chg (chgL (cgE R.old R.new) [R.slot] p.items), (chgL (cgE R.old R.new) [R.slot] p.items).2) := by
    unfold doesP
    have e : R.bare.kind = 2 := hk
    rw [e]
    rfl
  rw [hd] at h0 ⊢
  have h1 : (chgL (cgE R.old R.new) [R.slot] p.items).2 = 0 := by
    unfold doneP at h0
    split at h0
    · rename_i h; exact h
    · exact h0
  obtain ⟨i, t, hs, hi, hdt, hf, he⟩ := chgL_one h1
  rw [he]
  have e1 : doneP R.bare (p.chg (p.items.set i (cgE R.old R.new t).1, 0), (p.items.set i (cgE R.old R.new t).1, (0 : Int)).2) = (⟨R.lsn, p.kind, p.level, p.right, p.high, p.items.set i (cgE R.old R.new t).1⟩, 0) := rfl
  rw [e1]
  dsimp only
  rw [doP_undo (by show R.lsn < later; exact hla)]
  rw [hs] at hdt
  rw [itS_at hi] at hdt
  have hx : t.xmax = R.old := by
    unfold cgE at hf
    by_cases hx : t.xmax = R.old
    · exact hx
    · rw [if_neg hx] at hf; cases hf
  have hok : (Tu.mk t.xmin R.new t.frozen t.key t.value).ok = true := by
    unfold cgE at hf
    rw [if_pos hx] at hf
    have hf2 : Tu.err ⟨t.xmin, R.new, t.frozen, t.key, t.value⟩ = 0 := hf
    unfold Tu.err at hf2
    split at hf2
    · rename_i h; exact h
    · cases hf2
  have hit : (cgE R.old R.new t).1 = str (Tu.enc ⟨t.xmin, R.new, t.frozen, t.key, t.value⟩) := by
    unfold cgE
    rw [if_pos hx]
    show str (Tu.out _) = _
    unfold Tu.out
    rw [if_pos hok]
  obtain ⟨htok, hten, _⟩ := enc_decT hdt
  have hi2 : i < (p.items.set i (cgE R.old R.new t).1).length := by rw [List.length_set]; exact hi
  have hd2 : decT (bl (p.items.set i (cgE R.old R.new t).1)[i]) = some ⟨t.xmin, R.new, t.frozen, t.key, t.value⟩ := by
    rw [List.getElem_set_self, hit, bl_str]
    exact dec_encT hok
  have hcg : cgE R.new R.old ⟨t.xmin, R.new, t.frozen, t.key, t.value⟩ = (p.items[i], 0) := by
    unfold cgE
    rw [if_pos rfl]
    have e : (Tu.mk t.xmin R.old t.frozen t.key t.value) = t := by rw [← hx]
    show (str (Tu.out ⟨t.xmin, R.old, t.frozen, t.key, t.value⟩), Tu.err ⟨t.xmin, R.old, t.frozen, t.key, t.value⟩) = _
    rw [e]
    unfold Tu.out Tu.err
    rw [if_pos htok, if_pos htok, hten, str_bl]
  have hu : undL (R.undo later) (p.items.set i (cgE R.old R.new t).1) = (p.items, 0) := by
    have u1 : (R.undo later).old = R.new := by show (if R.kind = 2 then R.new else 0) = _; rw [if_pos hk]
    have u2 : (R.undo later).new = R.old := by show (if R.kind = 2 then R.old else 0) = _; rw [if_pos hk]
    have u3 : (R.undo later).slot = (i : Int) := hs
    unfold undL
    rw [u1, u2, u3, if_neg (fun q => hz ⟨q.2, q.1⟩), chgL_at hi2 hd2 (by rw [hcg]), hcg, List.set_set, List.set_getElem_self]
  rw [hu]
  rfl
/-- What undoes an insert leaves a dead slot of its key. -/
theorem back_ins {p : Pg} {R : Rc} {later : Int} (hk : R.kind = 1) (hl : p.lsn < R.lsn) (hla : R.lsn < later) (h0 : (doP 16 p R.page R.bare).2 = 0) :
    ∃ (i : Nat) (t : Tu) (L : List ByteArray), R.slot = (i : Int) ∧ decT (bl R.data) = some t ∧ okK t.key = true ∧ i < L.length ∧ (L.length : Int) = max (p.items.length : Int) ((i : Int) + 1) ∧ (∀ h : i < L.length, L[i] = str (dlay t.key)) ∧
      (∀ j (h : j < p.items.length), j ≠ i → L[j]? = some p.items[j]) ∧ doP 16 (doP 16 p R.page R.bare).1 R.page (R.undo later) = (⟨later, p.kind, p.level, p.right, p.high, L⟩, 0) := by
  rw [doP_bare (by unfold undK; rw [hk]; decide) hl] at h0 ⊢
  have hd : doesP 16 p R.bare = insP p R := by
    unfold doesP
    have e : R.bare.kind = 1 := hk
    rw [e]
    rfl
  rw [hd] at h0 ⊢
  have h1 : (insP p R).2 = 0 := by
    unfold doneP at h0
    split at h0
    · rename_i h; exact h
    · exact h0
  have key : ∃ (i : Nat) (t : Tu) (M : List ByteArray), R.slot = (i : Int) ∧ decT (bl R.data) = some t ∧ i < M.length ∧ (M.length : Int) = max (p.items.length : Int) ((i : Int) + 1) ∧ (∀ h : i < M.length, M[i] = R.data) ∧ (∀ j (h : j < p.items.length), j ≠ i → M[j]? = some p.items[j]) ∧ insP p R = (⟨p.lsn, p.kind, p.level, p.right, p.high, M⟩, 0) := by
    unfold insP at h1 ⊢
    cases hdt : decT (bl R.data) with
    | none => rw [hdt] at h1; cases h1
    | some t =>
      rw [hdt, if_pos (show (some t).isSome = true from rfl)] at h1
      rw [if_pos (show (some t).isSome = true from rfl)]
      by_cases hs : R.slot = (p.items.length : Int)
      · rw [if_pos hs] at h1 ⊢
        refine ⟨p.items.length, t, p.items ++ [R.data], hs, rfl, by simp, by simp; omega, fun h => by simp, fun j h hj => ?_, ?_⟩
        · rw [List.getElem?_append_left h, List.getElem?_eq_getElem h]
        · unfold fitP at h1 ⊢
          split
          · rename_i c; rw [if_pos c] at h1; cases h1
          · rfl
      · rw [if_neg hs] at h1 ⊢
        by_cases hok : okS p.items.length R.slot = true
        · rw [if_pos hok] at h1 ⊢
          have h2 := okS_iff.1 hok
          by_cases hst : stT (bl (itS p.items R.slot)) = 1
          · rw [if_pos hst] at h1 ⊢
            refine ⟨R.slot.toNat, t, p.items.set R.slot.toNat R.data, by omega, rfl, by rw [List.length_set]; omega, by rw [List.length_set]; omega, fun h => by rw [List.getElem_set_self], fun j h hj => ?_, ?_⟩
            · rw [List.getElem?_set_ne (by omega), List.getElem?_eq_getElem h]
            · unfold fitP at h1 ⊢
              split
              · rename_i c; rw [if_pos c] at h1; cases h1
              · rfl
          · rw [if_neg hst] at h1; cases h1
        · rw [if_neg hok] at h1; cases h1
  obtain ⟨i, t, M, hs, hdt, hi, hlen, hat, hoth, he⟩ := key
  rw [he]
  have e1 : doneP R.bare ((⟨p.lsn, p.kind, p.level, p.right, p.high, M⟩ : Pg), (0 : Int)) = (⟨R.lsn, p.kind, p.level, p.right, p.high, M⟩, 0) := rfl
  rw [e1]
  dsimp only
  rw [doP_undo (by show R.lsn < later; exact hla)]
  have hkk : okK t.key = true := Tu.ok_key (enc_decT hdt).1
  have hu : undL (R.undo later) M = (M.set i (str (dlay t.key)), 0) := by
    have u1 : (R.undo later).old = 0 := by show (if R.kind = 2 then R.new else 0) = _; rw [if_neg (by omega)]
    have u2 : (R.undo later).new = 0 := by show (if R.kind = 2 then R.old else 0) = _; rw [if_neg (by omega)]
    have u3 : (R.undo later).slot = (i : Int) := hs
    have hcd : cgD t = (str (dlay t.key), 0) := by
      unfold cgD dOut dErr
      rw [if_pos hkk, if_pos hkk]
    unfold undL
    rw [u1, u2, u3, if_pos ⟨rfl, rfl⟩, chgL_at hi (by rw [hat hi]; exact hdt) (by rw [hcd]), hcd]
  refine ⟨i, t, M.set i (str (dlay t.key)), hs, hdt, hkk, by rw [List.length_set]; exact hi, by rw [List.length_set]; exact hlen, fun h => by rw [List.getElem_set_self], fun j h hj => ?_, ?_⟩
  · rw [List.getElem?_set_ne (fun e => hj e.symm)]
    exact hoth j h hj
  · rw [hu]
    rfl
end Go.Proofs.YtnpdmlkgcjggoaaGreat
