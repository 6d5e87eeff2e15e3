/-
  What the program's test for a missing number answers: it is a NaN. No condition; nothing is written.
-/
import Derived.Test.YtgihdklgmndeeabFinImpl
namespace Go.Proofs.Ytgihdklgmndeeab
open Go.RowKit

set_option maxHeartbeats 1000000 in
theorem missing_any (x : Nat) (w : World) :
    Calls Try.prog 81 #[.float .f64 x] w fun e w' => e = .returned (.bool (nanB .f64 x)) ∧ w' = w := by
  have e1 := run_bits
  go_enter Try.func81, Try.ntmps81
  go_wp2
  go_ret
  refine ⟨?_, rfl⟩
  have hb : bits .andNot .u64 (x : Int) 9223372036854775808 = ((x % 9223372036854775808 : Nat) : Int) := by
    show IntKind.u64.wrap ((BitVec.ofInt 64 (x : Int) &&& ~~~ BitVec.ofInt 64 9223372036854775808).toNat : Int) = _
    rw [andNot_top x]
    unfold IntKind.wrap
    simp [IntKind.bits, IntKind.signed]
    omega
  show Ending.returned (.bool (decide ((9218868437227405312 : Int) < bits .andNot .u64 (x : Int) 9223372036854775808))) = _
  rw [hb]
  refine ret_bool ?_
  rw [Bool.eq_iff_iff]
  unfold nanB
  rw [(read_cases _ (binade_inf .f64) _).1, sw64, inf64]
  simp only [decide_eq_true_eq]
  omega

end Go.Proofs.Ytgihdklgmndeeab
