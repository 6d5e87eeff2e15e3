/-
  The model's lesser and greater of two numbers; no memory is written. No condition.
-/
import Derived.Test.YtbaocifpifbldaeSmall
namespace Go.Proofs.Ytbaocifpifbldae
open Go.RowKit


end Go.Proofs.Ytbaocifpifbldae
