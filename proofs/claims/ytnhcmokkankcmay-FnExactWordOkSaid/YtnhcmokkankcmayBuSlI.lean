/-
  What the program's Slot16 answers: the plain answer, at every argument; nothing that was there is written.
-/
import Derived.Test.YtnhcmokkankcmayBuImpl
import Derived.Test.YtnhcmokkankcmayBuSlot
namespace Go.Proofs.Ytnhcmokkankcmay
open Go.RowKit


end Go.Proofs.Ytnhcmokkankcmay
