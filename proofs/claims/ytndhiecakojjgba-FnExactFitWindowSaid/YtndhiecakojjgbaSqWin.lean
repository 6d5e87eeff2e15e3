/-
  The windows of one partition, in the program: the plain list, in memory of its own; nothing that was there is written.
-/
import Derived.Test.YtndhiecakojjgbaSqPure
import Derived.Test.YtndhiecakojjgbaPqOwn
import Derived.Test.YtndhiecakojjgbaShSpec
namespace Go.Proofs.Ytndhiecakojjgba
open Go.RowKit


end Go.Proofs.Ytndhiecakojjgba
