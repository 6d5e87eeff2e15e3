/-
  What the library's test for a NaN answers. No condition; nothing is written.
-/
import Derived.Test.YthdadhebpcndeamChecked
import Derived.Test.YthdadhebpcndeamFlWide
namespace Go.Proofs.Ythdadhebpcndeam
open Go.RowKit

set_option maxHeartbeats 1000000 in
theorem isNaN_is (x : Nat) (w : World) :
    Calls Try.prog 40 #[.float .f64 x] w fun e w' => e = .returned (.bool (nanB .f64 x)) ∧ w' = w := by
  go_enter Try.func40, Try.ntmps40
  go_wp2
  go_ret
  refine ⟨?_, rfl⟩
  rw [← order_self_ne]
  rfl

end Go.Proofs.Ythdadhebpcndeam
