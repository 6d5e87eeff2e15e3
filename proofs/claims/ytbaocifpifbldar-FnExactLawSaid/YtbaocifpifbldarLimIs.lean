/-
  What the tests of limits and sticks answer in the model and in the program, a number held, and the program's closure that holds one. At every argument; nothing that was there is written.
-/
import Derived.Test.YtbaocifpifbldarMinMax
import Derived.Test.YtbaocifpifbldarBlks
import Derived.Test.YtbaocifpifbldarCtlPure
namespace Go.Proofs.Ytbaocifpifbldar
open Go.RowKit

theorem liB_impl (a b s : Int) : liB a b s = (inB a (-10000) 10000 && inB b a 10000 && inB s 1 10000) := by
  rw [Bool.eq_iff_iff]
  simp only [liB, inB, Bool.and_eq_true, decide_eq_true_eq]
  omega

set_option maxHeartbeats 2000000 in
theorem specLimits_is {c : Bool} (a b s : Int) (w : World) (hc : liB a b s = c) :
    Calls Try.prog 49 #[.agg #[.int .i64 a, .int .i64 b, .int .i64 s]] w fun e w' => e = .returned (.bool c) ∧ Below w.heap.size w w' := by
  subst hc
  by_cases h2 : b ≤ 10000
  all_goals
    rcases two (inB a (-10000) b) (inB s 1 10000) with ⟨q1, _⟩ | ⟨q1, q3, _⟩ | ⟨q1, q3, _⟩
  all_goals
    have HE : Hid (liB a b s = (inB a (-10000) b && decide (b ≤ 10000) && inB s 1 10000)) := hide rfl
    simp only [q1, h2, decide_true, decide_false, Bool.false_and, Bool.true_and, Bool.and_false] at HE
    go_enter Try.func49, Try.ntmps49
    go_wp2_with (go_at_call 34; refine (l1In_any _ _ _ _).mono ?_; rintro e w' ⟨rfl, hw⟩; subst w')
    go_ret
    exact ⟨ret_bool (by rw [unhide HE]; try simp [*]), bel1 _⟩
set_option maxHeartbeats 2000000 in
theorem implLimits_is {c : Bool} (a b s : Int) (w : World) (hc : liB a b s = c) :
    Calls Try.prog 54 #[.agg #[.int .i64 a, .int .i64 b, .int .i64 s]] w fun e w' => e = .returned (.bool c) ∧ Below w.heap.size w w' := by
  subst hc
  rcases three (inB a (-10000) 10000) (inB b a 10000) (inB s 1 10000) with ⟨q1, hv⟩ | ⟨q1, q2, hv⟩ | ⟨q1, q2, q3, hv⟩ | ⟨q1, q2, q3, hv⟩
  all_goals
    have HE := hide ((liB_impl a b s).trans hv)
    clear hv
    go_enter Try.func54, Try.ntmps54
    go_wp2_with (go_at_call 35; refine (within_is _ _ _ _ (by first | exact q1 | exact q2 | exact q3)).mono ?_; rintro e w' ⟨rfl, hw⟩; subst w')
    go_ret
    exact ⟨ret_bool (unhide HE).symm, bel1 _⟩
set_option maxHeartbeats 2000000 in
theorem specStick_is {c : Bool} (a r v l : Int) (w : World) (hc : stB a r l = c) :
    Calls Try.prog 48 #[.agg #[.int .i64 a, .int .i64 r, .int .i64 v, .int .i64 l]] w fun e w' => e = .returned (.bool c) ∧ Below w.heap.size w w' := by
  subst hc
  rcases three (inB a (-1000) 1000) (inB r (-10000) 10000) (inB l (-1000) 1000) with ⟨q1, hv⟩ | ⟨q1, q2, hv⟩ | ⟨q1, q2, q3, hv⟩ | ⟨q1, q2, q3, hv⟩
  all_goals
    have HE := hide (show stB a r l = _ from hv)
    clear hv
    go_enter Try.func48, Try.ntmps48
    go_wp2_with (go_at_call 34; refine (l1In_is _ _ _ _ (by first | exact q1 | exact q2 | exact q3)).mono ?_; rintro e w' ⟨rfl, hw⟩; subst w')
    go_ret
    exact ⟨ret_bool (unhide HE).symm, bel1 _⟩
set_option maxHeartbeats 2000000 in
theorem implStick_is {c : Bool} (a r v l : Int) (w : World) (hc : stB a r l = c) :
    Calls Try.prog 56 #[.agg #[.int .i64 a, .int .i64 r, .int .i64 v, .int .i64 l]] w fun e w' => e = .returned (.bool c) ∧ Below w.heap.size w w' := by
  subst hc
  rcases three (inB a (-1000) 1000) (inB r (-10000) 10000) (inB l (-1000) 1000) with ⟨q1, hv⟩ | ⟨q1, q2, hv⟩ | ⟨q1, q2, q3, hv⟩ | ⟨q1, q2, q3, hv⟩
  all_goals
    have HE := hide (show stB a r l = _ from hv)
    clear hv
    go_enter Try.func56, Try.ntmps56
    go_wp2_with (go_at_call 35; refine (within_is _ _ _ _ (by first | exact q1 | exact q2 | exact q3)).mono ?_; rintro e w' ⟨rfl, hw⟩; subst w')
    go_ret
    exact ⟨ret_bool (unhide HE).symm, bel1 _⟩
set_option maxHeartbeats 2000000 in
theorem l9Held_eq (x a b : Int) (w : World) :
    Calls Try.prog 50 #[.int .i64 x, .int .i64 a, .int .i64 b] w fun e w' => e = .returned (.int .i64 (holdI x a b)) ∧ w' = w := by
  go_enter Try.func50, Try.ntmps50
  go_wp2_with (first
    | (go_at_call 42; refine (l1Min_eq _ _ _).mono ?_; rintro e w' ⟨rfl, hw⟩; subst w')
    | (go_at_call 41; refine (l1Max_eq _ _ _).mono ?_; rintro e w' ⟨rfl, hw⟩; subst w'))
  go_ret
  exact ⟨rfl, rfl⟩
set_option maxHeartbeats 2000000 in
theorem heldIn_own (a b : Int) (w : World) :
    Calls Try.prog 55 #[.int .i64 a, .int .i64 b] w fun e w' => ∃ g h, e = .returned (.func (.func 60) #[] #[.pointer (some ⟨g, 0, none⟩), .pointer (some ⟨h, 0, none⟩)]) ∧ Blk w' g [.int .i64 a] ∧ Blk w' h [.int .i64 b] ∧ w.heap.size ≤ g ∧ w.heap.size ≤ h ∧ Below w.heap.size w w' := by
  go_enter Try.func55, Try.ntmps55
  go_wp2
  go_ret
  exact ⟨_, _, rfl, blkAt2_0, blkAt2_1, by omega, by omega, bel2 _ _⟩
set_option maxHeartbeats 2000000 in
theorem hold_any (x a b : Int) (g h : Nat) (w : World) (hab : a ≤ b) (hg : Blk w g [.int .i64 a]) (hh : Blk w h [.int .i64 b]) :
    Calls Try.prog 60 #[.int .i64 x, .pointer (some ⟨g, 0, none⟩), .pointer (some ⟨h, 0, none⟩)] w fun e w' => e = .returned (.int .i64 (holdI x a b)) ∧ w' = w := by
  have c0 : w.cell? ⟨g, 0, none⟩ = some (.int .i64 a) := hg.c 0 (by simp)
  have c1 : w.cell? ⟨h, 0, none⟩ = some (.int .i64 b) := hh.c 0 (by simp)
  clear hg hh
  go_enter Try.func60, Try.ntmps60
  go_wp2
  all_goals
    go_ret
    exact ⟨ret_int (by unfold holdI; omega), rfl⟩

end Go.Proofs.Ytbaocifpifbldar
