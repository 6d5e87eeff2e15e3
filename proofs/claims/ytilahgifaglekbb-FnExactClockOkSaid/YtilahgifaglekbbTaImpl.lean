/-
  What the small functions of keeping apart answer in the program: plain answers, at every argument; nothing that was there is written.
-/
import Derived.Test.YtilahgifaglekbbSmall
import Derived.Test.YtilahgifaglekbbTaPure
import Derived.Test.YtilahgifaglekbbFrac
import Derived.Test.YtilahgifaglekbbBlks
namespace Go.Proofs.Ytilahgifaglekbb
open Go.RowKit

theorem taDr {B : Nat} {w w' : World} (h : Below B w w') (n : Nat) : Below B w (w'.drewN n) := h.trans (bel0d' n)












end Go.Proofs.Ytilahgifaglekbb
