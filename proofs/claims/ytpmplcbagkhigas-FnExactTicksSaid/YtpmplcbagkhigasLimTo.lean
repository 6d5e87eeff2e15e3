/-
  The law's copies of limits and of a stick. No condition.
-/
import Derived.Test.YtpmplcbagkhigasBlks
import Derived.Test.YtpmplcbagkhigasChecked
namespace Go.Proofs.Ytpmplcbagkhigas
open Go.RowKit

end Go.Proofs.Ytpmplcbagkhigas
