/-
  What the model's Vote answers: as the plain functions. At lists of at most 1048576 that are not nil; nothing that was there is written.
-/
import Derived.Test.YtidgkkldhnckeadVsPure
import Derived.Test.YtidgkkldhnckeadBel
import Derived.Test.YtidgkkldhnckeadThen
namespace Go.Proofs.Ytidgkkldhnckead
open Go.RowKit

end Go.Proofs.Ytidgkkldhnckead
