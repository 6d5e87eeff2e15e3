/-
  The law's size, copy and comparison of a list of Points. The copy at lists of at most 1048576; nothing that was there is written.
-/
import Derived.Test.YtbaocifpifbldaeToPo
import Derived.Deep.DrawnRows
import Derived.Deep.RegionHeld3
namespace Go.Proofs.Ytbaocifpifbldae
open Go.RowKit
attribute [local go_sem ↓] Go.wp_at_zero Go.wp_at_succ


theorem infoPo : (Try.prog.info? 53).map (fun i => (i.zero, i.size, i.bytes)) = some (some (.agg #[.int .i64 0, .int .i64 0, .int .i64 0]), 3, 24) := by kernel_rfl



end Go.Proofs.Ytbaocifpifbldae
