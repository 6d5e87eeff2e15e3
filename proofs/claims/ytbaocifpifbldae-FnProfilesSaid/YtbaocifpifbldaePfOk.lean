/-
  Whether points are so, in the model: the plain answer, at every list; nothing that was there is written.
-/
import Derived.Test.YtbaocifpifbldaePfSpec
namespace Go.Proofs.Ytbaocifpifbldae
open Go.RowKit


end Go.Proofs.Ytbaocifpifbldae
