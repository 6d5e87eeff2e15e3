/-
  The law's comparison of two floats: of one value it says so. No condition.
-/
import Derived.Test.YtomcbbpaajpeiaaChecked
import Derived.Test.YtomcbbpaajpeiaaFlWalk
namespace Go.Proofs.Ytomcbbpaajpeiaa
open Go.RowKit

/-- 1 in the great size. -/
def one64 : Nat := 4607182418800017408

end Go.Proofs.Ytomcbbpaajpeiaa
