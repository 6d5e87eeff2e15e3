/-
  What a tick of the height answers in the model: as the plain function. At numbers within their bounds; nothing that was there is written.
-/
import Derived.Test.YtfahhjgpgccdhadApSpec
import Derived.Test.YtfahhjgpgccdhadThen
import Derived.Test.YtfahhjgpgccdhadBlks
import Derived.Test.YtfahhjgpgccdhadWhole
import Derived.Deep.Quiet
namespace Go.Proofs.Ytfahhjgpgccdhad
open Go.RowKit

theorem trip {a b c d e f : Int} (h : (a, b, c) = (d, e, f)) : a = d ∧ b = e ∧ c = f := by simp only [Prod.mk.injEq] at h; omega
end Go.Proofs.Ytfahhjgpgccdhad
