/-
  What the model's small functions of chapter 16 answer: plain answers, at every argument; nothing that was there is written.
-/
import Derived.Test.YticdccdkjepifaaMLowPure
import Derived.Test.YticdccdkjepifaaTaAlert
namespace Go.Proofs.Yticdccdkjepifaa
open Go.RowKit




end Go.Proofs.Yticdccdkjepifaa
