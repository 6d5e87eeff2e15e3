/-
  What the model's Both16 answers: what is taken of two networks, at every two lists of frames. Nothing that was there is written.
-/
import Derived.Test.YticdccdkjepifaaMBoS
import Derived.Test.YticdccdkjepifaaBuAcc
import Derived.Test.YticdccdkjepifaaMBuGetM
import Derived.Deep.Cut
namespace Go.Proofs.Yticdccdkjepifaa
open Go Go.RowKit





end Go.Proofs.Yticdccdkjepifaa
