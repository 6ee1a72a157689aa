/- Parts. -/
import Derived.Test.YtpnbhddmdfcjdaaGreatK25
set_option maxRecDepth 100000
namespace Go.Proofs.YtpnbhddmdfcjdaaGreat
open Go.RowKit
/-- The items of an inner node with a separator more. -/
def posI (l : List ByteArray) (ks : List (En × Int)) (e : En) (c : Int) : List ByteArray := l.take (plE (ks.map Prod.fst) e) ++ e.encS c :: l.drop (plE (ks.map Prod.fst) e)
theorem encS_size {e : En} (c : Int) (h : e.ok = true) : (e.encS c).size ≤ 55 := by
  rw [← bl_len, bl_encS]
  exact layS_len c (En.few_ok h).1
/-- What Post answers of an inner node. -/
structure PosQ (w w' : World) (x : Ending) (a v r : Int) (h : ByteArray) (hi e : En) (c : Int) (l : List ByteArray) (ks : List (En × Int)) : Prop where
  bad : (e.ok = false ∨ blw hi e = false ∨ okC c = false ∨ e ∈ ks.map Prod.fst) → Res w w' x .none 140
  good : e.ok = true → blw hi e = true → okC c = true → e ∉ ks.map Prod.fst → Or3 w w' x (255 < (posI l ks e c).length ∨ 512 < 20 + h.size + isz (posI l ks e c)) ⟨a, 3, v, r, h, posI l ks e c⟩
end Go.Proofs.YtpnbhddmdfcjdaaGreat
