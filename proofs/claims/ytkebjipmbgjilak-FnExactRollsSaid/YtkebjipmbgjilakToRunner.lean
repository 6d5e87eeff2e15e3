/-
  The law's copy of a runner. No condition.
-/
import Derived.Test.YtkebjipmbgjilakRunCell
import Derived.Test.YtkebjipmbgjilakChecked
namespace Go.Proofs.Ytkebjipmbgjilak
open Go.RowKit

set_option maxHeartbeats 1000000 in
theorem toRunner_any (p d s e : Int) (w : World) :
    Calls Try.prog 9 #[.agg #[.int .i64 p, .int .i64 d, .int .i64 s, .int .i64 e]] w fun x w' => x = .returned (.agg #[.int .i64 p, .int .i64 d, .int .i64 s, .int .i64 e]) ∧ Below w.heap.size w w' := by
  go_enter Try.func9, Try.ntmps9
  go_wp2
  refine bodyPost_ret (v := .agg #[.int .i64 p, .int .i64 d, .int .i64 s, .int .i64 e]) (by simp [results, Try.results9, go_sem]) rfl ⟨rfl, ?_⟩
  repeat (first | exact bel3 _ _ _ | refine Below.setCell ?_ (by simp; try omega) _)

end Go.Proofs.Ytkebjipmbgjilak
