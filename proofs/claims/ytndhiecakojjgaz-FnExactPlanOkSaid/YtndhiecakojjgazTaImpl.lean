/-
  What the small functions of keeping apart answer in the program: plain answers, at every argument; nothing that was there is written.
-/
import Derived.Test.YtndhiecakojjgazSmall
import Derived.Test.YtndhiecakojjgazTaPure
import Derived.Test.YtndhiecakojjgazFrac
import Derived.Test.YtndhiecakojjgazBlks
namespace Go.Proofs.Ytndhiecakojjgaz
open Go.RowKit

theorem taDr {B : Nat} {w w' : World} (h : Below B w w') (n : Nat) : Below B w (w'.drewN n) := h.trans (bel0d' n)












end Go.Proofs.Ytndhiecakojjgaz
