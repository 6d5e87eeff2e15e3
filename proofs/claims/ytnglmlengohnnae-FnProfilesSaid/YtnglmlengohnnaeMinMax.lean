/-
  The model's lesser and greater of two numbers; no memory is written. No condition.
-/
import Derived.Test.YtnglmlengohnnaeSmall
namespace Go.Proofs.Ytnglmlengohnnae
open Go.RowKit


end Go.Proofs.Ytnglmlengohnnae
