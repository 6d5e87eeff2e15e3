/-
  The model's lesser and greater of two numbers; no memory is written. No condition.
-/
import Derived.Test.YtidgkkldhnckeaeSmall
namespace Go.Proofs.Ytidgkkldhnckeae
open Go.RowKit


end Go.Proofs.Ytidgkkldhnckeae
