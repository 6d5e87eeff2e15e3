/-
  What the program's Accept answers: the plain answer, at every argument; nothing that was there is written.
-/
import Derived.Test.YtnhcmokkankcmazBuImpl
import Derived.Test.YtnhcmokkankcmazBuAcc
namespace Go.Proofs.Ytnhcmokkankcmaz
open Go.RowKit


end Go.Proofs.Ytnhcmokkankcmaz
