/-
  What the small functions of keeping apart answer in the program: plain answers, at every argument; nothing that was there is written.
-/
import Derived.Test.YticdccdkjepifaaSmall
import Derived.Test.YticdccdkjepifaaTaPure
import Derived.Test.YticdccdkjepifaaMFrac
namespace Go.Proofs.Yticdccdkjepifaa
open Go.RowKit

theorem taDr {B : Nat} {w w' : World} (h : Below B w w') (n : Nat) : Below B w (w'.drewN n) := h.trans (bel0d' n)












end Go.Proofs.Yticdccdkjepifaa
