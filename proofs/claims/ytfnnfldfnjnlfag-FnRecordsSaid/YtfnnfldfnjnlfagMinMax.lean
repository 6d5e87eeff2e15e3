/-
  The model's lesser and greater of two numbers; no memory is written. No condition.
-/
import Derived.Test.YtfnnfldfnjnlfagSmall
namespace Go.Proofs.Ytfnnfldfnjnlfag
open Go.RowKit

set_option maxHeartbeats 400000 in
theorem l1Max_eq (x y : Int) (w : World) :
    Calls Try.prog 101 #[.int .i64 x, .int .i64 y] w fun e w' => e = .returned (.int .i64 (max x y)) ∧ w' = w := by
  by_cases h : x < y
  all_goals
    by_cases h2 : y < x
    all_goals
      go_enter Try.func101, Try.ntmps101
      go_wp2
      go_ret
      exact ⟨ret_int (by omega), rfl⟩
set_option maxHeartbeats 400000 in
theorem l1Min_eq (x y : Int) (w : World) :
    Calls Try.prog 102 #[.int .i64 x, .int .i64 y] w fun e w' => e = .returned (.int .i64 (min x y)) ∧ w' = w := by
  by_cases h : x < y
  all_goals
    by_cases h2 : y < x
    all_goals
      go_enter Try.func102, Try.ntmps102
      go_wp2
      go_ret
      exact ⟨ret_int (by omega), rfl⟩

end Go.Proofs.Ytfnnfldfnjnlfag
