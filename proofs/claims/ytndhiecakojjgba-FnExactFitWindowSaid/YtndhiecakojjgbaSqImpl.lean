/-
  What the program's Share answers: the plain answer, at every plan and partition; nothing that was there is written.
-/
import Derived.Test.YtndhiecakojjgbaSqWin
namespace Go.Proofs.Ytndhiecakojjgba
open Go.RowKit


end Go.Proofs.Ytndhiecakojjgba
