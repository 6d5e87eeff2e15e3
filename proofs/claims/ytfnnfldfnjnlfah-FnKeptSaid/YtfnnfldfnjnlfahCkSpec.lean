/-
  What the model's small functions of maintenance answer: plain answers, at every argument; nothing that was there is written.
-/
import Derived.Test.YtfnnfldfnjnlfahMCkPure
import Derived.Test.YtfnnfldfnjnlfahMTxDe
import Derived.Test.YtfnnfldfnjnlfahTaAlert
namespace Go.Proofs.Ytfnnfldfnjnlfah
open Go.RowKit



end Go.Proofs.Ytfnnfldfnjnlfah
