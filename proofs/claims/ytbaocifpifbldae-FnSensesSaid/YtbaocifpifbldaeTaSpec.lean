/-
  What the model answers in chapter 15: plain answers, at every argument; nothing that was there is written.
-/
import Derived.Test.YtbaocifpifbldaeTaImpl
import Derived.Test.YtbaocifpifbldaeTaBel
namespace Go.Proofs.Ytbaocifpifbldae
open Go.RowKit





end Go.Proofs.Ytbaocifpifbldae
