/-
  What the model's Owner answers: the plain answer, at every plan and tick; nothing that was there is written.
-/
import Derived.Test.YtndhiecakojjgbaPpSpec
namespace Go.Proofs.Ytndhiecakojjgba
open Go.RowKit


end Go.Proofs.Ytndhiecakojjgba
