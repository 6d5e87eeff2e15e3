/-
  The law's size, copy and comparison of a list of Pushs. The copy at lists of at most 1048576; nothing that was there is written.
-/
import Derived.Test.YtidgkkldhnckeaeToPu
import Derived.Deep.DrawnRows
import Derived.Deep.RegionHeld3
namespace Go.Proofs.Ytidgkkldhnckeae
open Go.RowKit
attribute [local go_sem ↓] Go.wp_at_zero Go.wp_at_succ


theorem infoPu : (Try.prog.info? 41).map (fun i => (i.zero, i.size, i.bytes)) = some (some (.agg #[.int .i64 0, .int .i64 0]), 2, 16) := by kernel_rfl



end Go.Proofs.Ytidgkkldhnckeae
