/-
  The model's lesser and greater of two numbers; no memory is written. No condition.
-/
import Derived.Test.YtfnnfldfnjnlfahMSmall
namespace Go.Proofs.Ytfnnfldfnjnlfah
open Go.RowKit

set_option maxHeartbeats 400000 in
theorem l1Max_eq (x y : Int) (w : World) :
    Calls Try.prog 51 #[.int .i64 x, .int .i64 y] w fun e w' => e = .returned (.int .i64 (max x y)) ∧ w' = w := by
  by_cases h : x < y
  all_goals
    by_cases h2 : y < x
    all_goals
      go_enter Try.func51, Try.ntmps51
      go_wp2
      go_ret
      exact ⟨ret_int (by omega), rfl⟩
set_option maxHeartbeats 400000 in
theorem l1Min_eq (x y : Int) (w : World) :
    Calls Try.prog 52 #[.int .i64 x, .int .i64 y] w fun e w' => e = .returned (.int .i64 (min x y)) ∧ w' = w := by
  by_cases h : x < y
  all_goals
    by_cases h2 : y < x
    all_goals
      go_enter Try.func52, Try.ntmps52
      go_wp2
      go_ret
      exact ⟨ret_int (by omega), rfl⟩

end Go.Proofs.Ytfnnfldfnjnlfah
