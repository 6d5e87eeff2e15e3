/-
  What the model's l19Behind and l19Left answer. No condition beyond sizes of numbers.
-/
import Derived.Test.YtfnnfldfnjnlfahCkSpec
import Derived.Test.YtfnnfldfnjnlfahMinMax
namespace Go.Proofs.Ytfnnfldfnjnlfah
open Go.RowKit



end Go.Proofs.Ytfnnfldfnjnlfah
