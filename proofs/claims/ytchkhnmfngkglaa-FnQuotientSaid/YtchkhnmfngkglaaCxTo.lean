/-
  The law's copy and comparison of a complex number: of one value it says so. No condition.
-/
import Derived.Test.YtchkhnmfngkglaaSameFl
namespace Go.Proofs.Ytchkhnmfngkglaa
open Go.RowKit
attribute [local go_sem] run_store_float run_store_complex

/-- A pair of floats as the program holds it. -/
def cx (x y : Nat) : Value := .agg #[.float .f64 x, .float .f64 y]

end Go.Proofs.Ytchkhnmfngkglaa
