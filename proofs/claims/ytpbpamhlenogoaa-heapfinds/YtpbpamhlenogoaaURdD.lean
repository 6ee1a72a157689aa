/- The document's Text, laid and taken, over the statuses' base. -/
import Derived.Test.YtpbpamhlenogoaaCRdC
import Derived.Test.YtpbpamhlenogoaaCNum
namespace Go.Proofs.Ytpbpamhlenogoaa
open Go.RowKit

theorem ret_str {a b : ByteArray} (h : a = b) : Ending.returned (.string a) = .returned (.string b) := by rw [h]
theorem cat_eqU (a : List UInt8) (s : ByteArray) : (⟨a.toArray⟩ : ByteArray) ++ s = ⟨(a ++ s.data.toList).toArray⟩ := by
  obtain ⟨⟨l⟩⟩ := s
  apply ByteArray.ext
  simp
end Go.Proofs.Ytpbpamhlenogoaa
