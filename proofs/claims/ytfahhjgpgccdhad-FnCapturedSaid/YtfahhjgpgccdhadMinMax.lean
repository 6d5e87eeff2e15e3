/-
  The model's lesser and greater of two numbers; no memory is written. No condition.
-/
import Derived.Test.YtfahhjgpgccdhadSmall
namespace Go.Proofs.Ytfahhjgpgccdhad
open Go.RowKit


end Go.Proofs.Ytfahhjgpgccdhad
