/- The document's log is appended to beside the document's pool. -/
import Derived.Test.YtebijheonkagfaaGreatDoorKVm
namespace Go.Proofs.YtebijheonkagfaaGreatDoor
open Go.RowKit
theorem ux_new (frm pages n : Nat) : (Pl.new frm pages n).Ux := by
  have key : ∀ f ∈ (Pl.new frm pages n).fs, f = Fm.none := fun f hf => by simp [Pl.new] at hf; exact hf.2
  refine ⟨fun i j hi hj _ h0 => ?_, fun f hf hc => ?_⟩
  · rw [key _ (List.getElem_mem hi)] at h0
    exact absurd h0 (by decide)
  · rw [key f hf] at hc
    cases hc
theorem ux_synced {P : Pl} (h : P.Ux) : P.synced.Ux := by
  refine ⟨h.dist, fun f hf hc => ?_⟩; obtain ⟨h0, h1⟩ := h.owed f hf hc; refine ⟨h0, ?_⟩; have : ∃ g ∈ P.fs, g.chg = true ∧ g.num = ((f.num.toNat : Nat) : Int) := ⟨f, hf, hc, by omega⟩; unfold Pl.synced; simp only [if_pos this, Option.isSome_some]
theorem ux_setF {P : Pl} (h : P.Ux) (i : Nat) (F : Fm) (hd : ∀ j (hj : j < P.fs.length), j ≠ i → 0 ≤ F.num → P.fs[j].num ≠ F.num) (ho : F.chg = true → 0 ≤ F.num ∧ (P.ow F.num.toNat).isSome = true) : (P.setF i F).Ux := by
  refine ⟨fun a b ha hb he h0 => ?_, fun f hf hc => ?_⟩
  · have ha' : a < P.fs.length := by have := ha; simp only [Pl.setF, List.length_set] at this; exact this
    have hb' : b < P.fs.length := by have := hb; simp only [Pl.setF, List.length_set] at this; exact this
    simp only [Pl.setF, List.getElem_set] at he h0
    by_cases ea : i = a
    · by_cases eb : i = b
      · exact ea.symm.trans eb
      · rw [if_pos ea, if_neg eb] at he
        rw [if_pos ea] at h0
        exact absurd he.symm (hd b hb' (fun e => eb e.symm) h0)
    · by_cases eb : i = b
      · rw [if_neg ea, if_pos eb] at he
        rw [if_neg ea, he] at h0
        exact absurd he (hd a ha' (fun e => ea e.symm) h0)
      · rw [if_neg ea, if_neg eb] at he
        rw [if_neg ea] at h0
        exact h.dist a b ha' hb' he h0
  · have hf' : f ∈ P.fs.set i F := hf
    rcases List.mem_or_eq_of_mem_set hf' with hm | rfl
    · exact h.owed f hm hc
    · exact ho hc
theorem ux_get {P : Pl} (h : P.Ux) (i j : Nat) (hj : j < P.fs.length) (hji : j ≠ i) (h0 : 0 ≤ (P.get i).num) : P.fs[j].num ≠ (P.get i).num := by
  intro e
  by_cases hi : i < P.fs.length
  · rw [← get_at hi] at e h0
    exact hji (h.dist j i hj hi e (by rw [e]; exact h0))
  · have : P.get i = Fm.none := by unfold Pl.get; simp [hi]
    rw [this] at h0
    exact absurd h0 (by decide)
theorem ux_wr {P : Pl} (h : P.Ux) (D : Dk) (G : Lg) (i : Nat) : (P.wr D G i (P.get i)).P.Ux := by
  unfold Pl.wr
  split
  · exact ux_setF h i _ (fun j hj hji h0 => ux_get h i j hj hji h0) (fun hc => by cases hc)
  · exact h
theorem ux_write {P : Pl} (h : P.Ux) (D : Dk) (G : Lg) (i : Nat) : (P.write D G i (P.get i)).P.Ux := by
  unfold Pl.write
  split
  · split
    · exact ux_wr (P := P.synced) (ux_synced h) _ _ _
    · exact h
  · exact ux_wr h _ _ _
theorem ux_none {P : Pl} (h : P.Ux) (i : Nat) : (P.setF i Fm.none).Ux := ux_setF h i _ (fun _ _ _ h0 => absurd h0 (by decide)) (fun hc => by cases hc)
theorem ux_take {P : Pl} (h : P.Ux) (D : Dk) (G : Lg) (pick : Int) : (P.take D G pick).1.P.Ux := by
  unfold Pl.take
  split
  · exact h
  · unfold Pl.takeAt
    split
    · split
      · exact ux_none (ux_write h _ _ _) _
      · exact ux_write h _ _ _
    · exact ux_none h _
theorem setF_nums {P : Pl} {i : Nat} {F : Fm} (hF : F.num = -1 ∨ ∃ g ∈ P.fs, g.num = F.num) : ∀ f ∈ (P.setF i F).fs, f.num = -1 ∨ ∃ g ∈ P.fs, g.num = f.num := by
  intro f hf; have hf' : f ∈ P.fs.set i F := hf
  rcases List.mem_or_eq_of_mem_set hf' with hm | rfl
  · exact .inr ⟨f, hm, rfl⟩
  · exact hF
theorem get_nums (P : Pl) (i : Nat) : (P.get i).num = -1 ∨ ∃ g ∈ P.fs, g.num = (P.get i).num := by
  by_cases hi : i < P.fs.length
  · rw [← get_at hi]
    exact .inr ⟨_, List.getElem_mem hi, rfl⟩
  · have : P.get i = Fm.none := by unfold Pl.get; simp [hi]
    rw [this]
    exact .inl rfl
theorem wr_nums (P : Pl) (D : Dk) (G : Lg) (i : Nat) : ∀ f ∈ (P.wr D G i (P.get i)).P.fs, f.num = -1 ∨ ∃ g ∈ P.fs, g.num = f.num := by
  unfold Pl.wr
  split
  · exact setF_nums (get_nums P i)
  · exact fun f hf => .inr ⟨f, hf, rfl⟩
theorem write_nums (P : Pl) (D : Dk) (G : Lg) (i : Nat) : ∀ f ∈ (P.write D G i (P.get i)).P.fs, f.num = -1 ∨ ∃ g ∈ P.fs, g.num = f.num := by
  unfold Pl.write
  split
  · split
    · exact wr_nums P.synced _ _ _
    · exact fun f hf => .inr ⟨f, hf, rfl⟩
  · exact wr_nums P _ _ _
theorem take_nums (P : Pl) (D : Dk) (G : Lg) (pick : Int) : ∀ f ∈ (P.take D G pick).1.P.fs, f.num = -1 ∨ ∃ g ∈ P.fs, g.num = f.num := by
  unfold Pl.take
  split
  · exact fun f hf => .inr ⟨f, hf, rfl⟩
  · unfold Pl.takeAt
    split
    · split
      · intro f hf
        rcases setF_nums (F := Fm.none) (.inl rfl) f hf with h | ⟨g, hg, e⟩
        · exact .inl h
        · rw [← e]
          exact write_nums P _ _ _ g hg
      · exact write_nums P _ _ _
    · exact setF_nums (F := Fm.none) (.inl rfl)
theorem idx_nomem {P : Pl} {n : Int} (h : P.idx n = none) : ∀ f ∈ P.fs, f.num ≠ n := by
  intro f hf e; unfold Pl.idx at h; rw [List.findIdx?_eq_none_iff] at h; have := h _ hf
  simp [e] at this
theorem take_no {P : Pl} {D : Dk} {G : Lg} {pick n : Int} (h0 : 0 ≤ n) (h : P.idx n = none) : ∀ f ∈ (P.take D G pick).1.P.fs, f.num ≠ n := by
  intro f hf e
  rcases take_nums P D G pick f hf with h1 | ⟨g, hg, e1⟩
  · omega
  · exact idx_nomem h g hg (e1.trans e)
theorem ux_setAt {P : Pl} (h : P.Ux) (i n : Nat) (body : Pg) (hd : ∀ j (hj : j < P.fs.length), j ≠ i → P.fs[j].num ≠ (n : Int)) : (P.setAt i n body).Ux := by
  unfold Pl.setAt
  split
  · rename_i hs
    exact ux_setF h i _ (fun j hj hji _ => hd j hj hji) (fun _ => ⟨by simp, by simpa using hs⟩)
  · have hu : Pl.Ux { P with ow := fun j => if j = n then some body.lsn else P.ow j } := ⟨h.dist, fun f hf hc => by
      obtain ⟨h0, h1⟩ := h.owed f hf hc; refine ⟨h0, ?_⟩
      by_cases e : f.num.toNat = n
      · simp [e]
      · simp only [if_neg e]
        exact h1⟩
    exact ux_setF hu i ⟨body, (n : Int), true⟩ (fun j hj hji _ => hd j hj hji) (fun _ => ⟨by simp, by simp⟩)
theorem hasC_ge {P : Pl} {n : Int} (h : ¬ P.hasC n ≠ 0) : 0 ≤ n ∧ n < (P.pages : Int) := by
  have h0 : P.hasC n = 0 := by simpa using h
  unfold Pl.hasC at h0
  by_cases e : 0 ≤ n ∧ n < (P.pages : Int)
  · exact e
  · rw [if_neg e] at h0
    cases h0
theorem ux_set {P : Pl} (h : P.Ux) (D : Dk) (G : Lg) (n : Int) (body : Pg) (pick : Int) : (P.set D G n body pick).P.Ux := by
  unfold Pl.set
  split
  · exact h
  · rename_i hn
    obtain ⟨n0, _⟩ := hasC_ge hn
    have nn : ((n.toNat : Nat) : Int) = n := by omega
    split
    · exact h
    · split
      · rename_i i e
        obtain ⟨h1, h2⟩ := idx_lt e
        exact ux_setAt h i _ _ (fun j hj hji => by rw [nn, ← h2]; exact ux_get h i j hj hji (by rw [h2]; exact n0))
      · rename_i e
        split
        · exact ux_setAt (ux_take h _ _ _) _ _ _ (fun j hj _ => by rw [nn]; exact take_no n0 e _ (List.getElem_mem hj))
        · exact ux_take h _ _ _
theorem ux_writeN {P : Pl} (h : P.Ux) (D : Dk) (G : Lg) (n : Int) : (P.writeN D G n).P.Ux := by
  unfold Pl.writeN
  split
  · exact h
  · split
    · split
      · exact ux_write h _ _ _
      · exact h
    · exact h
theorem ux_fetch {P : Pl} (h : P.Ux) (D : Dk) (G : Lg) (n pick : Int) : (P.fetch D G n pick).1.P.Ux := by
  unfold Pl.fetch
  split
  · exact h
  · rename_i hn
    obtain ⟨n0, _⟩ := hasC_ge hn
    split
    · exact h
    · rename_i e
      split
      · exact h
      · split
        · exact ux_setF (ux_take h _ _ _) _ _ (fun j hj _ _ => take_no n0 e _ (List.getElem_mem hj)) (fun hc => by cases hc)
        · exact ux_take h _ _ _
theorem Xd.own_lt {w : World} {x a b c ka kb kc : Nat} {D : Dk} (h : Xd w x a b c ka kb kc D) (k : Nat) (hk : xown x a b c k) : k < w.heap.size := by
  have h1 := h.lt; have h2 := h.ra.lt; have h3 := h.rb.lt; have h4 := h.rc.lt
  rcases hk with e | e | e | e <;> omega
theorem xh_append (w : World) (p xd a b c ka kb kc x fb cf tb : Nat) (ta : Option Addr) (tc base : Nat) (v8 : Value) (P : Pl) (D : Dk) (G : Lg) (tl : List (Int × Int)) (N : Nat → Prop) (h : Xh w p xd a b c ka kb kc x fb cf tb ta tc base v8 P D G tl N) (hbase : base ≤ w.heap.size) (h8 : ∀ k, v8.ownBlock = some k → ¬ N k) (hv : (nt.at_ G.tail).valid) (hroom : (nt.at_ G.tail).enc.length ≤ G.room) (hpl : G.places.length ≤ 1000000000) (hok : (G.app (nt.at_ G.tail).enc).Ok) (htt : (G.app (nt.at_ G.tail).enc).tail < 4294967295) :
    Calls Tryz.prog 16 #[.pointer (some ⟨x, 0, none⟩), .agg (nt.cells Loc.none)] w fun e w' =>
      e = .returned (.tuple #[.int .i64 (G.tail : Int), .int .i64 0]) ∧ ∃ v8', Xh w' p xd a b c ka kb kc x fb cf tb ta tc base v8' P D (G.app (nt.at_ G.tail).enc) tl (fun k => N k ∧ v8'.ownBlock ≠ some k) ∧ Only (fun k => k = x ∨ some k = v8.ownBlock) w w' ∧ (v8'.ownBlock = v8.ownBlock ∨ ∃ g, v8'.ownBlock = some g ∧ w.heap.size ≤ g) := by
  refine (glappend_ok w x xd G base v8 h.ww.lg hbase hv hroom hpl hok).mono ?_; rintro e w' ⟨he, v8', hx, ho, hg⟩; refine ⟨he, v8', ?_, ho, hg⟩
  have hS : ∀ k, k ≠ x → v8.ownBlock ≠ some k → ¬ (k = x ∨ some k = v8.ownBlock) := fun k e1 e2 e3 => e3.elim e1 (fun e => e2 e.symm)
  have hnew : ∀ k, k < w.heap.size → v8.ownBlock ≠ some k → v8'.ownBlock ≠ some k := fun k hk h1 e => by
    rcases hg with e2 | ⟨g, e2, e3⟩
    · exact h1 (e2 ▸ e)
    · rw [e2] at e
      injection e with e
      omega
  have hlt : ∀ k, v8'.ownBlock = some k → k < w'.heap.size := fun k e => (World.ownsRow.lt hx.pl k e).2
  have hN8 : ∀ k, N k → v8.ownBlock ≠ some k := fun k hk e => h8 k e hk
  have hd : ∀ k, xown xd a b c k → ¬ (k = x ∨ some k = v8.ownBlock) := fun k hk => hS k (fun e => h.ww.n1 (e ▸ hk)) (fun e => h.ww.n2 k e hk)
  have hT : ∀ B, B < w.heap.size → N B → ¬ (B = x ∨ some B = v8.ownBlock) := fun B _ hB => hS B (h.a7 B hB).2 (hN8 B hB)
  have hP : Xp w' p xd x fb cf tb ta tc P tl N := h.pl.kept ho (hS p h.a3 h.a5) (hS fb h.a4 h.a6) hT
  have hs : ∀ B, B < w.heap.size → N B → N B ∧ v8'.ownBlock ≠ some B := fun B hB hn => ⟨hn, hnew B hB (hN8 B hn)⟩
  refine ⟨⟨hP.c0, hP.c1, hP.c2, hP.c3, hP.c4, hP.c5, hP.fz, hP.lt, fun i hi => ((h.pl.fr i hi).wide hs).kept ho (hS fb h.a4 h.a6) (fun B hl hB => hT B hl hB.1), hP.ffz, hP.flt, hP.tab, hP.tft, fun h0 => hs tb (h.pl.tab.lt h0) (h.pl.tn h0), hP.n1, fun e => hP.t1 e.1, fun e => hP.t2 e.1, hP.nf, hP.np, hP.nm, hP.nn, hP.ts, hP.tm, fun k hk => ⟨hP.new k hk, fun e => by have := hlt k e; omega⟩⟩,
    ⟨h.ww.dk.kept ho (hd _ (.inl rfl)) (hd _ (.inr (.inl rfl))) (hd _ (.inr (.inr (.inl rfl)))) (hd _ (.inr (.inr (.inr rfl)))), hx, h.ww.n1, fun k e hk => hnew k (h.ww.dk.own_lt k hk) (fun e2 => h.ww.n2 k e2 hk) e⟩, h.a1, h.a2, h.a3, h.a4, hnew p h.pl.lt h.a5, hnew fb h.pl.flt h.a6, fun k hk => h.a7 k hk.1, h.f1, htt⟩
end Go.Proofs.YtebijheonkagfaaGreatDoor
