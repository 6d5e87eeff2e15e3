/-
  What At answers in the model: the plain fraction and flag at every curve and place; nothing that was there is written.
-/
import Derived.Test.YtikhfacgoglcfaaAt
import Derived.Deep.DrawnRows
namespace Go.Proofs.Ytikhfacgoglcfaa
open Go.RowKit
attribute [local go_sem ↓] Go.wp_at_zero Go.wp_at_succ

end Go.Proofs.Ytikhfacgoglcfaa
