/-
  What the model's l19Behind and l19Left answer. No condition beyond sizes of numbers.
-/
import Derived.Test.YtilahgifaglekbbCkSpec
import Derived.Test.YtilahgifaglekbbMinMax
namespace Go.Proofs.Ytilahgifaglekbb
open Go.RowKit

set_option maxRecDepth 20000 in
theorem specBehind_is {b : Bool} (ah ac ad bh bc bd : Int) (w : World) (hc : bhB ah ac ad bh bc bd = b) :
    Calls Try.prog 34 #[.agg #[.int .i64 ah, .int .i64 ac, .int .i64 ad], .agg #[.int .i64 bh, .int .i64 bc, .int .i64 bd]] w fun e w' => e = .returned (.bool b) ∧ Below w.heap.size w w' := by
  subst hc
  rcases three (decide (ah ≤ bh)) (decide (ac ≤ bc)) (decide (ad ≤ bd)) with ⟨q1, hv⟩ | ⟨q1, q2, hv⟩ | ⟨q1, q2, q3, hv⟩ | ⟨q1, q2, q3, hv⟩
  all_goals
    have HE := hide (show bhB ah ac ad bh bc bd = _ from hv)
    rw [unhide HE]
    clear hv
    simp only [decide_eq_true_eq, decide_eq_false_iff_not] at *
    go_enter Try.func34, Try.ntmps34
    go_wp2_with fail
    go_ret
    exact ⟨rfl, (by repeat (first | exact Below.refl _ _ | refine Below.alloc ?_ (by simp; try omega) _ | refine taDr ?_ _))⟩

theorem specLeft_is {r : Int} (b p : Int) (w : World) (hb : 0 ≤ b ∧ b ≤ 100000) (hp : 0 ≤ p ∧ p ≤ 1000000) (hr : lfI b p = r) :
    Calls Try.prog 35 #[.int .i64 b, .int .i64 p] w fun e w' => e = .returned (.int .i64 r) ∧ w' = w := by
  by_cases q : b = 0
  · have hz : r = 0 := by rw [← hr, lfI, if_pos q]
    subst hz
    go_enter Try.func35, Try.ntmps35
    go_wp2_with fail
    go_ret
    exact ⟨rfl, rfl⟩
  · have hz : r = max 0 (b - p) := by rw [← hr, lfI, if_neg q]
    subst hz
    clear hr
    go_enter Try.func35, Try.ntmps35
    go_wp2_with (first | (go_at_call 61; refine (l1Max_eq _ _ _).mono ?_; rintro e w' ⟨rfl, hw⟩; subst w'))
    go_ret
    exact ⟨rfl, rfl⟩

end Go.Proofs.Ytilahgifaglekbb
