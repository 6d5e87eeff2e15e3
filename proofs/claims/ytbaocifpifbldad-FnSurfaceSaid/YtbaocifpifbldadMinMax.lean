/-
  The model's lesser and greater of two numbers; no memory is written. No condition.
-/
import Derived.Test.YtbaocifpifbldadSmall
namespace Go.Proofs.Ytbaocifpifbldad
open Go.RowKit


end Go.Proofs.Ytbaocifpifbldad
