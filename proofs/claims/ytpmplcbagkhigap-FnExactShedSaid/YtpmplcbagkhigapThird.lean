/-
  The law's mark of a bool: whether the number is a third one. No program here.
-/
import Derived.Test.YtpmplcbagkhigapBase
namespace Go.Proofs.Ytpmplcbagkhigap

abbrev third (n : Int) : Bool := n % 3 == 0

end Go.Proofs.Ytpmplcbagkhigap
