/-
  The model's lesser and greater of two numbers; no memory is written. No condition.
-/
import Derived.Test.YtidgkkldhnckeatSmall
namespace Go.Proofs.Ytidgkkldhnckeat
open Go.RowKit


end Go.Proofs.Ytidgkkldhnckeat
