/-
  The law's copy and comparison of a sum. No condition.
-/
import Derived.Test.YtigpemoicfdfcajChecked
import Derived.Test.YtigpemoicfdfcajBase
namespace Go.Proofs.Ytigpemoicfdfcaj
open Go.RowKit

set_option maxHeartbeats 1000000 in
theorem toSum2_any (a b : Int) (w : World) :
    Calls Try.prog 14 #[.agg #[.int .i64 a, .int .i64 b]] w fun e w' => e = .returned (.agg #[.int .i64 a, .int .i64 b]) ∧ Below w.heap.size w w' := by
  go_enter Try.func14, Try.ntmps14
  go_wp2
  refine bodyPost_ret (v := .agg #[.int .i64 a, .int .i64 b]) (by simp [results, Try.results14, go_sem]) rfl ⟨rfl, ?_⟩
  repeat (first | exact bel3 _ _ _ | refine Below.setCell ?_ (by simp; try omega) _)

end Go.Proofs.Ytigpemoicfdfcaj
