/- For the walk of PageFits. -/
import Derived.Test.YtomkoklahlmbmaaDoorPLawF
namespace Go.Proofs.YtomkoklahlmbmaaDoor
open Go.RowKit

theorem w64_in (n : Int) (h0 : -9223372036854775808 ≤ n) (h1 : n < 9223372036854775808) : wrap64 n = n := by unfold wrap64; omega
theorem Pag.new' (w : World) (b : Nat) (hb : b = w.heap.size) (v0 v1 v2 v3 v4 v5 : Value) : Pag (w.alloc (.cells #[v0, v1, v2, v3, v4, v5] 24)) b v0 v1 v2 v3 v4 v5 := by
  subst hb
  exact Pag.new w v0 v1 v2 v3 v4 v5
/-- A page that Put answered, in a box of its own. -/
structure Bxd (w wc : World) (bx : Nat) (a k v r : Int) (h : ByteArray) (B' : Nat) (ao' : Option Addr) (cp' : Nat) (nl : List ByteArray) : Prop where
  pag : Pag wc bx (.int .i64 a) (.int .i64 k) (.int .i64 v) (.int .i64 r) (.string h) (.slice ao' nl.length cp')
  strs : Strs wc B' ao' nl
  fit : Fit ao' nl.length cp'
  only : Only (fun _ => False) w wc
theorem Bxd.before {w W x1 : World} {bx : Nat} {a k v r : Int} {h : ByteArray} {B' : Nat} {ao' : Option Addr} {cp' : Nat} {nl : List ByteArray} {u0 u1 u2 u3 u4 u5 : Value} (hW : Only (fun _ => False) w W) (hP : Pag W bx u0 u1 u2 u3 u4 u5) (hb : w.heap.size ≤ bx) (hQ : Put W x1 B' ao' cp' nl) :
    Bxd w ((((((x1.setCell ⟨bx, 0, none⟩ (.int .i64 a)).setCell ⟨bx, 1, none⟩ (.int .i64 k)).setCell ⟨bx, 2, none⟩ (.int .i64 v)).setCell ⟨bx, 3, none⟩ (.int .i64 r)).setCell ⟨bx, 4, none⟩ (.string h)).setCell ⟨bx, 5, none⟩ (.slice ao' nl.length cp')) bx a k v r h B' ao' cp' nl := by
  have hl := hP.lt
  have hn := hQ.new
  exact ⟨Pag.six (hP.more hQ.only) _ _ _ _ _ _, hQ.strs.kept (Only.six _ _ _ _ _ _ _ _) (fun _ e => by omega), hQ.fit, six_new (o2 hW hQ.only) hb _ _ _ _ _ _⟩
theorem Bxd.behind {w W x1 : World} {bx : Nat} {a k v r : Int} {h : ByteArray} {B' : Nat} {ao' : Option Addr} {cp' : Nat} {nl : List ByteArray} {u0 u1 u2 u3 u4 u5 : Value} (hW : Only (fun _ => False) w W) (hbx : bx = x1.heap.size) (hnl : 0 < nl.length) (hQ : Put W x1 B' ao' cp' nl) :
    Bxd w (((((((x1.alloc (.cells #[u0, u1, u2, u3, u4, u5] 24)).setCell ⟨bx, 0, none⟩ (.int .i64 a)).setCell ⟨bx, 1, none⟩ (.int .i64 k)).setCell ⟨bx, 2, none⟩ (.int .i64 v)).setCell ⟨bx, 3, none⟩ (.int .i64 r)).setCell ⟨bx, 4, none⟩ (.string h)).setCell ⟨bx, 5, none⟩ (.slice ao' nl.length cp')) bx a k v r h B' ao' cp' nl := by
  have hl := hQ.strs.lt hnl
  have h1 := (o2 hW hQ.only).size
  exact ⟨Pag.six (Pag.new' x1 bx hbx u0 u1 u2 u3 u4 u5) _ _ _ _ _ _, (hQ.strs.more (onlyA _ _)).kept (Only.six _ _ _ _ _ _ _ _) (fun _ e => by omega), hQ.fit, six_new (o2 (o2 hW hQ.only) (onlyA _ _)) (by omega) _ _ _ _ _ _⟩
theorem yieldsIf_load_page {ops : Array Oper} {S : World → Prop} {op : Oper} {a : Act} {v0 v1 v2 v3 v4 v5 : Value} (hw : Region.wanted op (yielded ops a.tmps) = true) (x : Operand) (ho : op.op = .load 24 x)
    (b : Nat) (hx : a.eval x = .pointer (some ⟨b, 0, none⟩)) (hS : ∀ w, S w → Pag w b v0 v1 v2 v3 v4 v5) : YieldsIf Tryd.prog ops S op (.agg #[v0, v1, v2, v3, v4, v5]) a :=
  .inl ⟨hw, fun w hw' => by
    unfold execOp
    simp only [ho, hx, Instr.loadAt, Instr.sureAddr, Sem.run_bind, Sem.run_pure, Result.andThen_ok, load_page (hS w hw')]⟩
structure Fe (w W : World) (bp bx : Nat) (a k v r : Int) (h : ByteArray) (B : Nat) (ao : Option Addr) (cp : Nat) (l : List ByteArray) (B2 : Nat) (ao2 : Option Addr) (cp2 : Nat) (nl : List ByteArray) : Prop where
  pp : Pag W bp (.int .i64 a) (.int .i64 k) (.int .i64 v) (.int .i64 r) (.string h) (.slice ao l.length cp)
  sp : Strs W B ao l
  px : Pag W bx (.int .i64 a) (.int .i64 k) (.int .i64 v) (.int .i64 r) (.string h) (.slice ao2 nl.length cp2)
  sx : Strs W B2 ao2 nl
  only : Only (fun _ => False) w W
theorem Fe.more {w W W' : World} {bp bx : Nat} {a k v r : Int} {h : ByteArray} {B : Nat} {ao : Option Addr} {cp : Nat} {l : List ByteArray} {B2 : Nat} {ao2 : Option Addr} {cp2 : Nat} {nl : List ByteArray} (H : Fe w W bp bx a k v r h B ao cp l B2 ao2 cp2 nl) (ho : Only (fun _ => False) W W') : Fe w W' bp bx a k v r h B ao cp l B2 ao2 cp2 nl :=
  ⟨H.pp.more ho, H.sp.more ho, H.px.more ho, H.sx.more ho, o2 H.only ho⟩
theorem room_cases (n0 hs is : Nat) (n : Int) (h2 : n0 ≤ 255) (h3 : 20 + hs + is ≤ 512) (hn : roomZ n0 (wrap64 (20 + (hs : Int) + (is : Int))) = n) : (n = -1 ∧ (255 ≤ n0 ∨ 510 < 20 + hs + is)) ∨ (0 ≤ n ∧ n = 510 - (20 + (hs : Int) + (is : Int)) ∧ n0 ≤ 254) := by
  have hw : wrap64 (20 + (hs : Int) + (is : Int)) = 20 + (hs : Int) + (is : Int) := w64_in _ (by omega) (by omega)
  have hw2 : wrap64 (510 - (20 + (hs : Int) + (is : Int))) = 510 - (20 + (hs : Int) + (is : Int)) := w64_in _ (by omega) (by omega)
  unfold roomZ at hn
  rw [hw, hw2] at hn
  split at hn <;> omega
end Go.Proofs.YtomkoklahlmbmaaDoor
