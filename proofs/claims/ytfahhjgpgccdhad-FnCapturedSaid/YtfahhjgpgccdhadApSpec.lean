/-
  What the model answers of a pilot: its test, where a rate leads, a hold, a step toward a number, a turn. At every pilot; bounds where they are said; nothing that was there is written.
-/
import Derived.Test.YtfahhjgpgccdhadApPure
import Derived.Test.YtfahhjgpgccdhadMinMax
import Derived.Test.YtfahhjgpgccdhadBlk
namespace Go.Proofs.Ytfahhjgpgccdhad
open Go.RowKit



end Go.Proofs.Ytfahhjgpgccdhad
