/-
  Whether points are so, in the model: the plain answer, at every list; nothing that was there is written.
-/
import Derived.Test.YtnglmlengohnnaePfSpec
namespace Go.Proofs.Ytnglmlengohnnae
open Go.RowKit


end Go.Proofs.Ytnglmlengohnnae
