/- Parts. -/
import Derived.Test.YtpnbhddmdfcjdaaGreatK16
set_option maxRecDepth 100000
namespace Go.Proofs.YtpnbhddmdfcjdaaGreat
open Go.RowKit
/-- One number more. -/
theorem Lc.appk {w W W1 : World} {a v r : Int} {h : ByteArray} {ao : Option Addr} {n cp cb : Nat} {x y y' : Value} {hi : En} {es : List En} {ks ks' : List Int} (H : Lc w W a v r h ao n cp cb x y hi es ks) (he : Kts W1 w.heap.size y' ks') (ho : Only (fun j => y.ownBlock = some j) W W1) (hx : y'.ownBlock = y.ownBlock ∨ ∃ g, y'.ownBlock = some g ∧ W.heap.size ≤ g ∧ g < W1.heap.size) : Lc w (W1.setCell ⟨cb, 1, none⟩ y') a v r h ao n cp cb x y' hi es ks' := by
  have hs : Only (fun k => k = cb) W1 (W1.setCell ⟨cb, 1, none⟩ y') := Only.setCell W1 ⟨cb, 1, none⟩ y' rfl
  have hcl := H.cbl
  have hlt := H.con.lt
  have d1 : ¬ y.ownBlock = some (w.heap.size) := fun e => by have := (H.diy _ e).1; omega
  have d2 : ¬ y.ownBlock = some (w.heap.size + 1) := fun e => by have := (H.diy _ e).1; omega
  have d3 : ¬ y.ownBlock = some cb := fun e => (H.diy _ e).2.1 rfl
  have hy : ∀ k, x.ownBlock = some k → ¬ y.ownBlock = some k := fun k hk => (H.dis k hk).2.2.1
  have hyn : ∀ k, y'.ownBlock = some k → w.heap.size + 1 < k ∧ k ≠ cb ∧ x.ownBlock ≠ some k ∧ k < W1.heap.size := by
    intro k hk
    rcases hx with e | ⟨g, e, hg, hg2⟩
    · rw [e] at hk
      have := H.diy k hk
      exact ⟨this.1, this.2.1, fun hxk => hy k hxk hk, Nat.lt_of_lt_of_le this.2.2 ho.size⟩
    · rw [e] at hk
      cases hk
      refine ⟨by omega, by omega, fun hyk => ?_, hg2⟩
      have := (H.dis _ hyk).2.2.2
      omega
  refine ⟨(H.pag.kept ho d1).kept hs (by omega), (H.res.kept ho d2).kept hs (by omega), (H.con.kept ho d3).s1 y', (H.ets.kept ho hy).kept hs (fun k hk => (H.dis k hk).2.1), he.kept hs (fun k hk => (hyn k hk).2.1), fun k hk => ?_, fun k hk => ?_, H.cbl, ?_⟩
  · have := H.dis k hk
    exact ⟨this.1, this.2.1, fun hyk => (hyn k hyk).2.2.1 hk, Nat.lt_of_lt_of_le (Nat.lt_of_lt_of_le this.2.2.2 ho.size) hs.size⟩
  · have := hyn k hk
    exact ⟨this.1, this.2.1, Nat.lt_of_lt_of_le this.2.2.2 hs.size⟩
  · exact (H.only.trans ho (fun i hi e => by have := (H.diy _ e).1; omega)).trans hs (fun i hi e => by omega)
/-- What readInner answers of an inner node. -/
def InR (w w' : World) (e : Ending) (hi : En) (ks : List (En × Int)) : Prop := ∃ A C A2 C2, e = .returned (.tuple #[cvv (.slice A ks.length C) (.slice A2 ks.length C2) hi, .bool true]) ∧ Ets w' w.heap.size (.slice A ks.length C) (ks.map Prod.fst) ∧ Kts w' w.heap.size (.slice A2 ks.length C2) (ks.map Prod.snd) ∧ Only (fun _ => False) w w'
theorem Cv.at (w : World) (b : Nat) (hb : b = w.heap.size) (es ks : Value) (h : En) : Cv (w.alloc (.cells #[es, ks, .string h.key, .int .i64 h.page, .int .i64 h.slot] 200)) b es ks h := by subst hb; exact Cv.new w es ks h
theorem Lc.firstI {w w2 W : World} {a v r : Int} {h : ByteArray} {ao : Option Addr} {n cp : Nat} {g q c : Nat} {hi : En} (hp : Pag w2 w.heap.size (.int .i64 a) (.int .i64 3) (.int .i64 v) (.int .i64 r) (.string h) (.slice ao n cp)) (hr : Cv w2 (w.heap.size + 1) (.slice none 0 0) (.slice none 0 0) noE) (ho : Only (fun _ => False) w w2) (o : Only (fun _ => False) w2 W) (hc : Cv W c (.slice (some ⟨g, 0, none⟩) 0 n) (.slice (some ⟨q, 0, none⟩) 0 n) hi) (he : Ets W w.heap.size (.slice (some ⟨g, 0, none⟩) 0 n) []) (hk : Kts W w.heap.size (.slice (some ⟨q, 0, none⟩) 0 n) []) (h1 : w2.heap.size ≤ g ∧ w2.heap.size ≤ q ∧ w2.heap.size ≤ c ∧ g ≠ q ∧ g ≠ c ∧ q ≠ c) :
    Lc w W a v r h ao n cp c (.slice (some ⟨g, 0, none⟩) 0 n) (.slice (some ⟨q, 0, none⟩) 0 n) hi [] [] := by
  have hz := hr.lt
  refine ⟨hp.more o, hr.more o, hc, he, hk, fun k hx => ?_, fun k hx => ?_, by omega, o2 ho o⟩
  · have hl := (World.ownsRow.lt he k hx).2
    have : g = k := by simpa [Value.ownBlock] using hx
    subst this
    exact ⟨by omega, by omega, by simp [Value.ownBlock]; omega, hl⟩
  · have hl := (World.ownsRow.lt hk k hx).2
    have : q = k := by simpa [Value.ownBlock] using hx
    subst this
    exact ⟨by omega, by omega, hl⟩
theorem InIs.len {hi : En} {l : List ByteArray} {ks : List (En × Int)} (h : InIs hi l ks) : l.length = ks.length := by rw [h.items, List.length_map]
end Go.Proofs.YtpnbhddmdfcjdaaGreat
