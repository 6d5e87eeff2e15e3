/-
  What the program's RunnerOk, gain and Rolls answer: as the plain functions. At every argument; nothing that was there is written.
-/
import Derived.Test.YtkebjipmbgjilajRunCell
import Derived.Test.YtkebjipmbgjilajSmall
import Derived.WalkMore
namespace Go.Proofs.Ytkebjipmbgjilaj
open Go.RowKit

set_option maxHeartbeats 1000000 in
theorem implRunnerOk_any (p d s e : Int) (w : World) :
    Calls Try.prog 36 #[.agg #[.int .i64 p, .int .i64 d, .int .i64 s, .int .i64 e]] w fun x w' => x = .returned (.bool (runB p d s e)) ∧ Below w.heap.size w w' := by
  rcases four (inB p 1 40) (inB d 0 20) (inB s 1 40) (inB e 2 4) with ⟨h, hv⟩ | ⟨h, h', hv⟩ | ⟨h, h', h'', hv⟩ | ⟨h, h', h'', h3, hv⟩ | ⟨h, h', h'', h3, hv⟩
  all_goals
    have HE : Hid (runB p d s e = _) := hide hv
    clear hv
    go_enter Try.func36, Try.ntmps36
    go_wp2_with (go_at_call 42; refine (within_any _ _ _ _).mono ?_; rintro e w' ⟨rfl, hw⟩; subst w')
    go_ret
    exact ⟨ret_bool (unhide HE).symm, bel1 _⟩
theorem implRunnerOk_is {c : Bool} (p d s e : Int) (w : World) (hc : runB p d s e = c) :
    Calls Try.prog 36 #[.agg #[.int .i64 p, .int .i64 d, .int .i64 s, .int .i64 e]] w fun x w' => x = .returned (.bool c) ∧ Below w.heap.size w w' := by
  subst hc; exact implRunnerOk_any p d s e w


end Go.Proofs.Ytkebjipmbgjilaj
