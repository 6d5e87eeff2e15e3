/-
  What the model advises: plain answers, at every argument; nothing that was there is written.
-/
import Derived.Test.YtbaocifpifbldawTaSpec
import Derived.Test.YtbaocifpifbldawTaAdv
namespace Go.Proofs.Ytbaocifpifbldaw
open Go.RowKit









end Go.Proofs.Ytbaocifpifbldaw
