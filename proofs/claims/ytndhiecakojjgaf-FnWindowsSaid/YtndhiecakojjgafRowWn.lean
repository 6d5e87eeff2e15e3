/-
  The law's size, copy and comparison of a list of Windows. The copy at lists of at most 1048576; nothing that was there is written.
-/
import Derived.Test.YtndhiecakojjgafToWn
import Derived.Deep.DrawnRows
import Derived.Deep.RegionHeld3
namespace Go.Proofs.Ytndhiecakojjgaf
open Go.RowKit
attribute [local go_sem ↓] Go.wp_at_zero Go.wp_at_succ


theorem infoWn : (Try.prog.info? 91).map (fun i => (i.zero, i.size, i.bytes)) = some (some (.agg #[.int .i64 0, .int .i64 0, .int .i64 0]), 3, 24) := by kernel_rfl



end Go.Proofs.Ytndhiecakojjgaf
