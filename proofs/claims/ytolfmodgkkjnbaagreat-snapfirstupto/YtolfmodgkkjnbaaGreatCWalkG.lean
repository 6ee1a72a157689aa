/- What Cut does. -/
import Derived.Test.YtolfmodgkkjnbaaGreatCWalkF
namespace Go.Proofs.YtolfmodgkkjnbaaGreat
open Go.RowKit

theorem gap_step {m x y : Int} (hx : Idd m x) (hy : Idd m y) (h : ¬ x = y) : xgap m (xadd m x 1) y = xgap m x y - 1 ∧ 1 ≤ xgap m x y := by
  have h1 := xadd_id (n := 1) hx
  have hm := hx.1.1
  have b1 := hx.2
  have b2 := hy.2
  rw [ring_gap h1 hy, ring_gap hx hy, ring_on hx (by omega) (by omega)]
  split <;> split <;> split <;> omega
theorem gap_zero {m x y : Int} (hx : Idd m x) (hy : Idd m y) (h : x = y) : xgap m x y = 0 := by
  have b1 := hx.2
  have b2 := hy.2
  rw [ring_gap hx hy]
  split <;> omega
/-- The loop of Cut: at x, n more to go, so that what is there becomes F. -/
structure CutS (m y : Int) (F : List UInt8) (len : Nat) (g : Nat) (w0 wr : World) (x : Int) (l : List UInt8) : Prop where
  id : Idd m x
  by_ : Byt wr g l
  only : Only (fun k => k = g) w0 wr
  len : l.length = len
  clr : clr m (xgap m x y).toNat x l = F
theorem CutS.last {m y : Int} {F : List UInt8} {len g : Nat} {w0 wr : World} {x : Int} {l : List UInt8} (h : CutS m y F len g w0 wr x l) (hy : Idd m y) (e : x = y) : l = F := by
  have := h.clr
  rw [gap_zero h.id hy e] at this
  exact this
theorem CutS.next {m y : Int} {F : List UInt8} {len g : Nat} {w0 wr w1 : World} {x : Int} {l : List UInt8} (h : CutS m y F len g w0 wr x l) (hy : Idd m y) (e : ¬ x = y) (hb : Byt w1 g (stSet l (x - 1).toNat 0)) (ho : Only (fun k => k = g) wr w1) :
    CutS m y F len g w0 w1 (xadd m x 1) (stSet l (x - 1).toNat 0) := by
  obtain ⟨e1, e2⟩ := gap_step h.id hy e
  refine ⟨xadd_id h.id, hb, h.only.trans ho (fun _ _ q => q), by rw [stSet_len]; exact h.len, ?_⟩
  have hc := h.clr
  rw [show (xgap m x y).toNat = (xgap m (xadd m x 1) y).toNat + 1 by omega, _root_.Go.Proofs.YtolfmodgkkjnbaaGreat.clr] at hc
  exact hc
/-- Behind Cut's last but one statement. -/
structure CutA (w wc : World) (a : Int) (g2 : Nat) (S T : ByteArray) : Prop where
  one : Pag wc w.heap.size (.int .i64 a) (.int .i64 1) (.int .i64 0) (.int .i64 0) (.string ⟨#[]⟩) (.slice (some ⟨g2, 0, none⟩) 2 2)
  two : Pag wc (w.heap.size + 1) (.int .i64 0) (.int .i64 0) (.int .i64 0) (.int .i64 0) (.string ⟨#[]⟩) (.slice none 0 0)
  strs : Strs wc g2 (some ⟨g2, 0, none⟩) [S, T]
  only : Only (fun _ => False) w wc
  new : w.heap.size + 1 < g2
theorem CutA.of {w w9 : World} {a : Int} {v : Value} {S T : ByteArray} (h1 : Pag w9 w.heap.size (.int .i64 a) (.int .i64 1) (.int .i64 0) (.int .i64 0) (.string ⟨#[]⟩) v)
    (h2 : Pag w9 (w.heap.size + 1) (.int .i64 0) (.int .i64 0) (.int .i64 0) (.int .i64 0) (.string ⟨#[]⟩) (.slice none 0 0)) (ho : Only (fun _ => False) w w9) (hs : S.size ≤ 140737488355328) (ht : T.size ≤ 140737488355328) :
    CutA w ((w9.setCell ⟨w.heap.size, 5, none⟩ (.slice (some ⟨w9.heap.size, 0, none⟩) 2 2)).alloc (.cells #[.string S, .string T] 9)) a w9.heap.size S T := by
  have ho1 : Only (fun k => k = w.heap.size) w9 (w9.setCell ⟨w.heap.size, 5, none⟩ (.slice (some ⟨w9.heap.size, 0, none⟩) 2 2)) := Only.setCell w9 ⟨w.heap.size, 5, none⟩ _ rfl
  have hsz : (w9.setCell ⟨w.heap.size, 5, none⟩ (.slice (some ⟨w9.heap.size, 0, none⟩) 2 2)).heap.size = w9.heap.size := by simp
  have hS := Strs.two (w9.setCell ⟨w.heap.size, 5, none⟩ (.slice (some ⟨w9.heap.size, 0, none⟩) 2 2)) S T hs ht
  rw [hsz] at hS
  exact ⟨(h1.set5 _).more (onlyA _ _), (h2.kept ho1 (by omega)).more (onlyA _ _), hS, o2 (ho.trans ho1 (fun i hi e => by omega)) (onlyA _ _), h2.lt⟩
/-- What Cut answers. -/
noncomputable def cutR (m : Int) (p : Pg) (y : Int) : Pg := if cid m p y = 0 then cutP m p y else .none
end Go.Proofs.YtolfmodgkkjnbaaGreat
