/-
  What the program's test of a side of a table answers, at every list; no memory is written.
-/
import Derived.Test.YtbaocifpifbldaaSmall
namespace Go.Proofs.Ytbaocifpifbldaa
open Go.RowKit

set_option maxHeartbeats 1000000 in
theorem axisOk_any (a1 : Option Addr) (l1 c1 : Nat) (xs : List Int) (b : Int) (w : World) (h1 : Row w a1 l1 xs) (hb0 : 0 ≤ b) (hb1 : b ≤ 1000000) :
    Calls Try.prog 44 #[.slice a1 l1 c1, .int .i64 b] w fun e w' => e = .returned (.bool (axisB xs b)) ∧ ∃ n, w' = w.drewN n := by
  have H1 := hide h1
  have hl1 := h1.len_eq
  subst hl1
  clear h1
  rcases three (inB xs.length 2 20) (riseB xs) (allB xs (-b) b) with ⟨h, hv⟩ | ⟨h, h', hv⟩ | ⟨h, h', h'', hv⟩ | ⟨h, h', h'', hv⟩
  all_goals
    have HE := hide hv
    clear hv
    go_enter Try.func44, Try.ntmps44
    go_wp2_with (first
      | (go_at_call 52; refine (within_any _ _ _ _).mono ?_; rintro e w' ⟨rfl, rfl⟩)
      | (go_at_call 53; refine (ascending_any _ _ _ xs _ (by first | exact unhide H1 | exact (unhide H1).drewN _)).mono ?_; rintro e w' ⟨rfl, n, rfl⟩)
      | (go_at_call 45; refine (allWithin_any _ _ _ xs _ _ _ (by first | exact unhide H1 | exact (unhide H1).drewN _)).mono ?_; rintro e w' ⟨rfl, n, rfl⟩))
    go_ret
    exact ⟨ret_bool (unhide HE).symm, by first | exact ⟨0, rfl⟩ | exact ⟨_, rfl⟩⟩

end Go.Proofs.Ytbaocifpifbldaa
