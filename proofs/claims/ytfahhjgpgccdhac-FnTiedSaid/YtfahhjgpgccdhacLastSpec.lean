/-
  What the model's Lasts answers: as the plain function. At every battery and list of draws; nothing that was there is written.
-/
import Derived.Test.YtfahhjgpgccdhacSmall
import Derived.Test.YtfahhjgpgccdhacLists
import Derived.Test.YtfahhjgpgccdhacLastPure
namespace Go.Proofs.Ytfahhjgpgccdhac
open Go.RowKit

theorem l1MinB_any (a b : Int) (w : World) :
    Calls Try.prog 84 #[.int .i64 a, .int .i64 b] w fun e w' => e = .returned (.int .i64 (min a b)) ∧ w' = w := by
  by_cases h : a < b
  · have HE : Hid (min a b = a) := hide (by omega)
    go_enter Try.func84, Try.ntmps84
    go_wp2
    go_ret
    exact ⟨ret_int (unhide HE).symm, rfl⟩
  · have HE : Hid (min a b = b) := hide (by omega)
    go_enter Try.func84, Try.ntmps84
    go_wp2
    go_ret
    exact ⟨ret_int (unhide HE).symm, rfl⟩
theorem l1MinB_is {c : Int} (a b : Int) (w : World) (h : min a b = c) :
    Calls Try.prog 84 #[.int .i64 a, .int .i64 b] w fun e w' => e = .returned (.int .i64 c) ∧ w' = w := by
  subst h; exact l1MinB_any a b w

end Go.Proofs.Ytfahhjgpgccdhac
