/-
  What the model's Share answers: the plain answer, at every plan and partition; nothing that was there is written.
-/
import Derived.Test.YtndhiecakojjgbaShSpec
import Derived.Test.YtndhiecakojjgbaPpOwn
import Derived.Test.YtndhiecakojjgbaAppEl
import Derived.Test.YtndhiecakojjgbaApFar
import Derived.Test.YtndhiecakojjgbaMinMax
namespace Go.Proofs.Ytndhiecakojjgba
open Go.RowKit




end Go.Proofs.Ytndhiecakojjgba
