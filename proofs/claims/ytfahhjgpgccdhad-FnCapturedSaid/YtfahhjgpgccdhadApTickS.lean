/-
  What PilotTick answers in the model: as the plain function. At every pilot and drift; nothing that was there is written.
-/
import Derived.Test.YtfahhjgpgccdhadApVertS
import Derived.Test.YtfahhjgpgccdhadApFar
namespace Go.Proofs.Ytfahhjgpgccdhad
open Go.RowKit

end Go.Proofs.Ytfahhjgpgccdhad
