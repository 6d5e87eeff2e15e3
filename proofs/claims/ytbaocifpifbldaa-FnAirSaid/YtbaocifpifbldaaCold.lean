/-
  What Coldest answers in the model and in the program: the same height, number and flag at every air; nothing that was there is written.
-/
import Derived.Test.YtbaocifpifbldaaColdPure
import Derived.Deep.DrawnRows
namespace Go.Proofs.Ytbaocifpifbldaa
open Go.RowKit
attribute [local go_sem ↓] Go.wp_at_zero Go.wp_at_succ

end Go.Proofs.Ytbaocifpifbldaa
