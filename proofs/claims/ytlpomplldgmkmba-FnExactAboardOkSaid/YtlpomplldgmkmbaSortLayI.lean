/-
  The program's slices.Sort at []int is the one whose contract the library proves: its functions and types by their numbers here. No condition.
-/
import Derived.Test.YtlpomplldgmkmbaChecked
import Derived.Shelf.Sort.Plain
namespace Go.Proofs.Ytlpomplldgmkmba
open Go.Shelf

end Go.Proofs.Ytlpomplldgmkmba
