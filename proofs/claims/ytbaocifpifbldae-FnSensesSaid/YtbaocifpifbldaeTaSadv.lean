/-
  What the model advises: plain answers, at every argument; nothing that was there is written.
-/
import Derived.Test.YtbaocifpifbldaeTaSpec
import Derived.Test.YtbaocifpifbldaeTaAdv
namespace Go.Proofs.Ytbaocifpifbldae
open Go.RowKit









end Go.Proofs.Ytbaocifpifbldae
