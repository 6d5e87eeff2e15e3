/-
  The model's lesser and greater of two numbers; no memory is written. No condition.
-/
import Derived.Test.YtndhiecakojjgbaSmall
namespace Go.Proofs.Ytndhiecakojjgba
open Go.RowKit


end Go.Proofs.Ytndhiecakojjgba
