/-
  The law's copies of limits and of a stick. No condition.
-/
import Derived.Test.YtfahhjgpgccdhasBlks
import Derived.Test.YtfahhjgpgccdhasChecked
namespace Go.Proofs.Ytfahhjgpgccdhas
open Go.RowKit

end Go.Proofs.Ytfahhjgpgccdhas
