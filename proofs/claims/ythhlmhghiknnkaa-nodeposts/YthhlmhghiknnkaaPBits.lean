/- What Sum, Of and Big do, the program's and the document's. -/
import Derived.Test.YthhlmhghiknnkaaDText
import Derived.Test.YthhlmhghiknnkaaCrc
namespace Go.Proofs.Ythhlmhghiknnkaa
open Go.RowKit

theorem set_rep (j : Nat) (d : List UInt8) (u : UInt8) : (List.replicate (j + 1) 0 ++ d).set j u = List.replicate j 0 ++ u :: d := by
  induction j with
  | zero => rfl
  | succ j ih =>
    rw [List.replicate_succ, List.cons_append, List.set_cons_succ, ih]
    rfl
/-- The lowest so many bytes of a number, the highest one first. -/
def bigF : Nat → Nat → List UInt8
  | 0, _ => []
  | k + 1, n => bigF k (n / 256) ++ [UInt8.ofNat (n % 256)]
theorem bigF_len (k n : Nat) : (bigF k n).length = k := by
  induction k generalizing n with
  | zero => rfl
  | succ k ih => simp [bigF, ih]
theorem Try.infoByte : (Try.prog.info? 5).map (fun i => (i.zero, i.size, i.bytes)) = some (some (.int .u8 0), 1, 1) := by kernel_rfl
theorem bytes_back (w : World) (base : Nat) (v : Value) (row : Option Nat) (l : List UInt8) (hr : Row w base v row l) : (convert 93 9 v).run Try.prog w = .ok (.string ⟨l.toArray⟩) w := by
  rcases hr.own.2 with ⟨rfl, hn⟩ | ⟨g, cap, cur, rfl, hb, hg, hn, hm, hs, htake⟩
  · have e : l = [] := List.eq_nil_of_length_eq_zero hn
    subst e
    rw [run_convert_bytes_nil w 93 5 Try.underlying93 Try.underlying5 0 0 9 Try.underlying9]
    rfl
  · refine run_convert_bytes_back w 93 9 5 ⟨g, 0, none⟩ cap l Try.underlying93 Try.underlying5 Try.underlying9 ?_
    intro j hj
    refine hr.own.cells (g := g) rfl j _ ?_
    unfold cells
    simp [List.getElem?_eq_getElem hj]
theorem sbit_yes2 (q : Int) (h0 : 0 ≤ q) (h1 : q < 4294967296) (h : (q % 2 == 1) = true) : bits BinOp.xor IntKind.u32 (q / 2) 3988292384 = sbit q :=
  sbit_yes q (by rw [and1_u32 q h0 h1]; exact h)
theorem sbit_no2 (q : Int) (h0 : 0 ≤ q) (h1 : q < 4294967296) (h : (q % 2 == 1) = false) : q / 2 = sbit q :=
  sbit_no q (by rw [and1_u32 q h0 h1]; exact h)

theorem of_ref (o : Int) (b : UInt8) : o % 9223372036854775808 % 36028797018963968 * 256 + (b.toNat : Int) = (o * 256 + (b.toNat : Int)) % 18446744073709551616 % 9223372036854775808 := by
  have hb := b.toNat_lt
  omega
end Go.Proofs.Ythhlmhghiknnkaa
