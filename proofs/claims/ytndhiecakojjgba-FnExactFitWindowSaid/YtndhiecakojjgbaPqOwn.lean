/-
  Whose a tick is, in the program: the plain answer, at every plan and tick; nothing that was there is written.
-/
import Derived.Test.YtndhiecakojjgbaPqOrd
namespace Go.Proofs.Ytndhiecakojjgba
open Go.RowKit




end Go.Proofs.Ytndhiecakojjgba
