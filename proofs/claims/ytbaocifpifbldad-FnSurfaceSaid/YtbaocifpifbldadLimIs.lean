/-
  What the tests of limits and sticks answer in the model and in the program, a number held, and the program's closure that holds one. At every argument; nothing that was there is written.
-/
import Derived.Test.YtbaocifpifbldadMinMax
import Derived.Test.YtbaocifpifbldadBlks
import Derived.Test.YtbaocifpifbldadCtlPure
namespace Go.Proofs.Ytbaocifpifbldad
open Go.RowKit

theorem liB_impl (a b s : Int) : liB a b s = (inB a (-10000) 10000 && inB b a 10000 && inB s 1 10000) := by
  rw [Bool.eq_iff_iff]
  simp only [liB, inB, Bool.and_eq_true, decide_eq_true_eq]
  omega

set_option maxHeartbeats 2000000 in
theorem implLimits_is {c : Bool} (a b s : Int) (w : World) (hc : liB a b s = c) :
    Calls Try.prog 57 #[.agg #[.int .i64 a, .int .i64 b, .int .i64 s]] w fun e w' => e = .returned (.bool c) ∧ Below w.heap.size w w' := by
  subst hc
  rcases three (inB a (-10000) 10000) (inB b a 10000) (inB s 1 10000) with ⟨q1, hv⟩ | ⟨q1, q2, hv⟩ | ⟨q1, q2, q3, hv⟩ | ⟨q1, q2, q3, hv⟩
  all_goals
    have HE := hide ((liB_impl a b s).trans hv)
    clear hv
    go_enter Try.func57, Try.ntmps57
    go_wp2_with (go_at_call 33; refine (within_is _ _ _ _ (by first | exact q1 | exact q2 | exact q3)).mono ?_; rintro e w' ⟨rfl, hw⟩; subst w')
    go_ret
    exact ⟨ret_bool (unhide HE).symm, bel1 _⟩
set_option maxHeartbeats 2000000 in
theorem implStick_is {c : Bool} (a r v l : Int) (w : World) (hc : stB a r l = c) :
    Calls Try.prog 73 #[.agg #[.int .i64 a, .int .i64 r, .int .i64 v, .int .i64 l]] w fun e w' => e = .returned (.bool c) ∧ Below w.heap.size w w' := by
  subst hc
  rcases three (inB a (-1000) 1000) (inB r (-10000) 10000) (inB l (-1000) 1000) with ⟨q1, hv⟩ | ⟨q1, q2, hv⟩ | ⟨q1, q2, q3, hv⟩ | ⟨q1, q2, q3, hv⟩
  all_goals
    have HE := hide (show stB a r l = _ from hv)
    clear hv
    go_enter Try.func73, Try.ntmps73
    go_wp2_with (go_at_call 33; refine (within_is _ _ _ _ (by first | exact q1 | exact q2 | exact q3)).mono ?_; rintro e w' ⟨rfl, hw⟩; subst w')
    go_ret
    exact ⟨ret_bool (unhide HE).symm, bel1 _⟩
set_option maxHeartbeats 2000000 in
theorem heldIn_own (a b : Int) (w : World) :
    Calls Try.prog 58 #[.int .i64 a, .int .i64 b] w fun e w' => ∃ g h, e = .returned (.func (.func 77) #[] #[.pointer (some ⟨g, 0, none⟩), .pointer (some ⟨h, 0, none⟩)]) ∧ Blk w' g [.int .i64 a] ∧ Blk w' h [.int .i64 b] ∧ w.heap.size ≤ g ∧ w.heap.size ≤ h ∧ Below w.heap.size w w' := by
  go_enter Try.func58, Try.ntmps58
  go_wp2
  go_ret
  exact ⟨_, _, rfl, blkAt2_0, blkAt2_1, by omega, by omega, bel2 _ _⟩
set_option maxHeartbeats 2000000 in
theorem hold_any (x a b : Int) (g h : Nat) (w : World) (hab : a ≤ b) (hg : Blk w g [.int .i64 a]) (hh : Blk w h [.int .i64 b]) :
    Calls Try.prog 77 #[.int .i64 x, .pointer (some ⟨g, 0, none⟩), .pointer (some ⟨h, 0, none⟩)] w fun e w' => e = .returned (.int .i64 (holdI x a b)) ∧ w' = w := by
  have c0 : w.cell? ⟨g, 0, none⟩ = some (.int .i64 a) := hg.c 0 (by simp)
  have c1 : w.cell? ⟨h, 0, none⟩ = some (.int .i64 b) := hh.c 0 (by simp)
  clear hg hh
  go_enter Try.func77, Try.ntmps77
  go_wp2
  all_goals
    go_ret
    exact ⟨ret_int (by unfold holdI; omega), rfl⟩

end Go.Proofs.Ytbaocifpifbldad
