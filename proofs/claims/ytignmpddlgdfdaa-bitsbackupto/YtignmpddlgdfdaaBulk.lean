/- What the bound on the bulk of the arguments gives. -/
import Derived.Test.YtignmpddlgdfdaaBack
namespace Go.Proofs.Ytignmpddlgdfdaa
open Go.RowKit

theorem itemBytes_len (k n : Int) (s : ByteArray) : (itemBytes k n s).length ≤ 10 + s.size := by
  unfold itemBytes
  have h1 : (sev n.toNat).length ≤ 10 := sevF_len 9 n.toNat
  have h2 : (sev s.size).length ≤ 10 := sevF_len 9 s.size
  have h3 : s.data.toList.length = s.size := by rw [Array.length_toList]; rfl
  split
  · omega
  · split
    · rw [List.length_append, h3]; omega
    · simp
theorem items_bulk {H : Type} (K N : Nat → Int) (S : Nat → ByteArray) (is : List Nat) :
    ((is.map fun i => itemBytes (K i) (N i) (S i)).flatten).length ≤ 10 * Rows.uptoBulkAll (H := H) (is.map fun i => .agg [.lit (.int .u8 (K i)), .lit (.int .i64 (N i)), .lit (.string (S i).data.toList)]) := by
  induction is with
  | nil => simp [Rows.uptoBulkAll]
  | cons i t ih =>
    have h1 := itemBytes_len (K i) (N i) (S i)
    have h3 : (S i).data.toList.length = (S i).size := by rw [Array.length_toList]; rfl
    simp only [List.map_cons, List.flatten_cons, List.length_append, Rows.uptoBulkAll, Rows.uptoBulk] at ih ⊢
    omega
theorem enc_bulk {H : Type} (len : Nat) (K N : Nat → Int) (S : Nat → ByteArray) (sp : List (DataW H)) (k : Nat) :
    (encTo len K N S k).length ≤ 10 * Rows.uptoBulk (H := H) (.slice ((List.range len).map fun i => .agg [.lit (.int .u8 (K i)), .lit (.int .i64 (N i)), .lit (.string (S i).data.toList)]) sp) := by
  have h := items_bulk (H := H) K N S (List.range len)
  have h2 : (encTo len K N S k).length ≤ ((List.range len).map fun i => itemBytes (K i) (N i) (S i)).flatten.length := by
    have e : (allItems len K N S).flatten = encTo len K N S k ++ encFrom len K N S k := by
      unfold encTo encFrom
      rw [← List.flatten_append, List.take_append_drop]
    show _ ≤ (allItems len K N S).flatten.length
    rw [e, List.length_append]
    omega
  simp only [Rows.uptoBulk]
  omega
theorem enc_none (K N : Nat → Int) (S : Nat → ByteArray) (k : Nat) : (encTo 0 K N S k).length = 0 := by
  unfold encTo allItems
  simp
theorem bulk_ints {H : Type} (zs : List Int) : Rows.uptoBulkAll (H := H) (zs.map fun n => .lit (.int .i64 n)) = zs.length := by
  induction zs with
  | nil => rfl
  | cons z t ih => rw [List.map_cons, Rows.uptoBulkAll, ih, List.length_cons, Rows.uptoBulk, Nat.add_comm]; intro b h; cases h
theorem small {H : Type} {l : List (DataW H)} (hk : Rows.uptoSmall H l = true) : Rows.uptoBulkAll l ≤ 1048576 := of_decide_eq_true hk
end Go.Proofs.Ytignmpddlgdfdaa
