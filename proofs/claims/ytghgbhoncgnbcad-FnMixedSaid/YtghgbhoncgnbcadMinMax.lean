/-
  The model's lesser and greater of two numbers; no memory is written. No condition.
-/
import Derived.Test.YtghgbhoncgnbcadSmall
namespace Go.Proofs.Ytghgbhoncgnbcad
open Go.RowKit


end Go.Proofs.Ytghgbhoncgnbcad
