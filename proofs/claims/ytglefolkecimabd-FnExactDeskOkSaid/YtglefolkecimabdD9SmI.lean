/-
  What the program's small functions of clocks answer: isBeyond, passedBy, clockOf, leftOf. No condition beyond sizes of numbers; nothing that was there is written.
-/
import Derived.Test.YtglefolkecimabdCk1
import Derived.Test.YtglefolkecimabdLeftImpl
import Derived.Test.YtglefolkecimabdArr
import Derived.LoopN
namespace Go.Proofs.Ytglefolkecimabd
open Go.RowKit
attribute [local go_sem high] run_ix0 run_ix1 run_ix2

set_option maxRecDepth 20000 in
set_option maxHeartbeats 1000000 in
theorem isBeyond_is {b : Bool} (ah ac ad bh bc bd : Int) (w : World) (hc : bhB ah ac ad bh bc bd = b) :
    Calls Try.prog 123 #[.agg #[.int .i64 ah, .int .i64 ac, .int .i64 ad], .agg #[.int .i64 bh, .int .i64 bc, .int .i64 bd]] w fun e w' => e = .returned (.bool !b) ∧ Below w.heap.size w w' := by
  subst hc
  rcases three (decide (ah ≤ bh)) (decide (ac ≤ bc)) (decide (ad ≤ bd)) with ⟨q1, hv⟩ | ⟨q1, q2, hv⟩ | ⟨q1, q2, q3, hv⟩ | ⟨q1, q2, q3, hv⟩
  all_goals
    have HE := hide (show bhB ah ac ad bh bc bd = _ from hv)
    rw [unhide HE]
    clear hv
    simp only [decide_eq_true_eq, decide_eq_false_iff_not, Int.not_le] at q1
    try simp only [decide_eq_true_eq, decide_eq_false_iff_not, Int.not_le] at q2
    try simp only [decide_eq_true_eq, decide_eq_false_iff_not, Int.not_le] at q3
    go_enter Try.func123, Try.ntmps123
    go_wp2_with fail
    go_ret
    exact ⟨ret_bool (by first | rfl | (simp <;> omega)), (by repeat (first | exact Below.refl _ _ | refine Below.alloc ?_ (by simp; try omega) _ | refine taDr ?_ _))⟩

end Go.Proofs.Ytglefolkecimabd
