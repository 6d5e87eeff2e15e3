/-
  The law's mark of a bool: whether the number is a third one. No program here.
-/
import Derived.Test.YtfahhjgpgccdhasBase
namespace Go.Proofs.Ytfahhjgpgccdhas

abbrev third (n : Int) : Bool := n % 3 == 0

end Go.Proofs.Ytfahhjgpgccdhas
