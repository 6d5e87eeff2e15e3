/-
  The law's size, copy and comparison of a list of Motions. The copy at lists of at most 1048576; nothing that was there is written.
-/
import Derived.Test.YtdamnfiaciacmaaToMo
import Derived.Deep.DrawnRows
import Derived.Deep.RegionHeld3
namespace Go.Proofs.Ytdamnfiaciacmaa
open Go.RowKit
attribute [local go_sem ↓] Go.wp_at_zero Go.wp_at_succ
attribute [local go_sem] run_store_float


theorem infoMo : (Try.prog.info? 26).map (fun i => (i.zero, i.size, i.bytes)) = some (some (.agg #[.float .f64 0, .float .f64 0, .float .f64 0, .float .f64 0]), 4, 32) := by kernel_rfl



end Go.Proofs.Ytdamnfiaciacmaa
