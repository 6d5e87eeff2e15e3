/-
  The law's mark of a bool: whether the number is a third one. No program here.
-/
import Derived.Test.YtpmplcbagkhigasBase
namespace Go.Proofs.Ytpmplcbagkhigas

abbrev third (n : Int) : Bool := n % 3 == 0

end Go.Proofs.Ytpmplcbagkhigas
