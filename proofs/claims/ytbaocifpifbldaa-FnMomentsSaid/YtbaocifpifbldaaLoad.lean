/-
  What the program's loadOk and added answer: the test of a mass and an arm; a sum with a mass added at an arm. The sums fit.
-/
import Derived.Test.YtbaocifpifbldaaSumPure
import Derived.Test.YtbaocifpifbldaaSmall
namespace Go.Proofs.Ytbaocifpifbldaa
open Go.RowKit

set_option maxHeartbeats 400000 in
theorem loadOk_any (m a : Int) (w : World) :
    Calls Try.prog 54 #[.int .i64 m, .int .i64 a] w fun e w' => e = .returned (.bool (itemB m a)) ∧ w' = w := by
  rcases two (inB m 0 10000) (inB a (-1000) 1000) with ⟨h, hv⟩ | ⟨h, h', hv⟩ | ⟨h, h', hv⟩
  all_goals
    have HE : Hid (itemB m a = _) := hide hv
    clear hv
    go_enter Try.func54, Try.ntmps54
    go_wp2_with (go_at_call 52; refine (within_any _ _ _ _).mono ?_; rintro e w' ⟨rfl, hw⟩; subst w')
    go_ret
    exact ⟨ret_bool (unhide HE).symm, rfl⟩
theorem loadOk_is {c : Bool} (m a : Int) (w : World) (hc : itemB m a = c) :
    Calls Try.prog 54 #[.int .i64 m, .int .i64 a] w fun e w' => e = .returned (.bool c) ∧ w' = w := by
  subst hc; exact loadOk_any m a w

set_option maxHeartbeats 400000 in
theorem added_any (m q n a : Int) (w : World) (h1 : -9223372036854775808 ≤ m + n ∧ m + n ≤ 9223372036854775807) (h2 : -9223372036854775808 ≤ n * a ∧ n * a ≤ 9223372036854775807) (h3 : -9223372036854775808 ≤ q + n * a ∧ q + n * a ≤ 9223372036854775807) :
    Calls Try.prog 55 #[.agg #[.int .i64 m, .int .i64 q], .int .i64 n, .int .i64 a] w fun e w' => e = .returned (.agg #[.int .i64 (m + n), .int .i64 (q + n * a)]) ∧ Below w.heap.size w w' := by
  go_enter Try.func55, Try.ntmps55
  go_wp2
  refine bodyPost_ret (v := .agg #[.int .i64 (m + n), .int .i64 (q + n * a)]) (by simp [results, Try.results55, go_sem]) rfl ⟨rfl, ?_⟩
  repeat (first | exact bel2 _ _ | refine Below.setCell ?_ (by simp; try omega) _)

end Go.Proofs.Ytbaocifpifbldaa
