/-
  What the model's Owner answers: the plain answer, at every plan and tick; nothing that was there is written.
-/
import Derived.Test.YtndhiecakojjgafPpSpec
namespace Go.Proofs.Ytndhiecakojjgaf
open Go.RowKit


end Go.Proofs.Ytndhiecakojjgaf
