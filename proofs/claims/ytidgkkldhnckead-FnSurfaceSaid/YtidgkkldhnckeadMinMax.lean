/-
  The model's lesser and greater of two numbers; no memory is written. No condition.
-/
import Derived.Test.YtidgkkldhnckeadSmall
namespace Go.Proofs.Ytidgkkldhnckead
open Go.RowKit


end Go.Proofs.Ytidgkkldhnckead
