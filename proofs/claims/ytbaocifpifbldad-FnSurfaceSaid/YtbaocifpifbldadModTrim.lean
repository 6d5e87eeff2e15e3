/-
  What ModeOf and TrimTick answer in the model and in the program: as the plain functions. At every argument; no memory is written.
-/
import Derived.Test.YtbaocifpifbldadSmall
import Derived.Test.YtbaocifpifbldadMinMax
import Derived.Test.YtbaocifpifbldadCtlPure
namespace Go.Proofs.Ytbaocifpifbldad
open Go.RowKit

theorem tr_eq {a b c d : Int} {p q : Bool} (h1 : a = b) (h2 : c = d) (h3 : p = q) : Ending.returned (.tuple #[.int .i64 a, .int .i64 c, .bool p]) = .returned (.tuple #[.int .i64 b, .int .i64 d, .bool q]) := by rw [h1, h2, h3]

set_option maxHeartbeats 2000000 in
theorem implModeOf_any (a : Int) (b : Bool) (c : Int) (w : World) :
    Calls Try.prog 23 #[.int .i64 a, .bool b, .int .i64 c] w fun e w' => e = .returned (.int .i64 (modR a b c)) ∧ Below w.heap.size w w' := by
  by_cases h1 : a < 2
  all_goals by_cases h2 : 2 < c
  all_goals cases b
  all_goals by_cases h3 : 0 < c
  all_goals first
    | omega
    | (go_enter Try.func23, Try.ntmps23
       go_wp2
       go_ret
       exact ⟨ret_int (by unfold modR; simp; omega), Below.refl _ _⟩)

set_option maxHeartbeats 4000000 in
theorem implTrimTick_same (t h k : Int) (w : World) :
    Calls Try.prog 26 #[.int .i64 t, .int .i64 h, .int .i64 k] w fun e w' => e = .returned (.tuple #[.int .i64 (trT t h k), .int .i64 (trK t h k), .bool (trB t h k)]) ∧ w' = w := by
  rcases three (inB t (-1000) 1000) (inB h (-1000) 1000) (inB k 0 9) with ⟨q1, hv⟩ | ⟨q1, q2, hv⟩ | ⟨q1, q2, q3, hv⟩ | ⟨q1, q2, q3, hv⟩
  iterate 3
    · have HV : Hid (trB t h k = false) := hide hv
      clear hv
      go_enter Try.func26, Try.ntmps26
      go_wp2_with (go_at_call 33; refine (within_is _ _ _ _ (by first | exact q1 | exact q2 | exact q3)).mono ?_; rintro e w' ⟨rfl, hw⟩; subst w')
      go_ret3
      exact ⟨by simp [trT, trK, unhide HV], rfl⟩
  have f1 := in_facts q1
  have f2 := in_facts q2
  have f3 := in_facts q3
  have HV : Hid (trB t h k = true) := hide hv
  clear hv
  by_cases h1 : h = 0
  · subst h1
    go_enter Try.func26, Try.ntmps26
    go_wp2_with (go_at_call 33; refine (within_is _ _ _ _ (by first | exact q1 | exact q2 | exact q3)).mono ?_; rintro e w' ⟨rfl, hw⟩; subst w')
    go_ret3
    exact ⟨by simp [trT, trK, unhide HV], rfl⟩
  by_cases h2 : k < 9
  · go_enter Try.func26, Try.ntmps26
    go_wp2_with (go_at_call 33; refine (within_is _ _ _ _ (by first | exact q1 | exact q2 | exact q3)).mono ?_; rintro e w' ⟨rfl, hw⟩; subst w')
    go_ret3
    exact ⟨by simp [trT, trK, unhide HV, h1, h2], rfl⟩
  by_cases h3 : 0 < h
  · go_enter Try.func26, Try.ntmps26
    go_wp2_with (first
      | (go_at_call 33; refine (within_is _ _ _ _ (by first | exact q1 | exact q2 | exact q3)).mono ?_; rintro e w' ⟨rfl, hw⟩; subst w'))
    all_goals
      go_ret3
      exact ⟨tr_eq (by rw [trT, unhide HV]; simp; omega) (by rw [trK, unhide HV]; simp; omega) (unhide HV).symm, rfl⟩
  · go_enter Try.func26, Try.ntmps26
    go_wp2_with (first
      | (go_at_call 33; refine (within_is _ _ _ _ (by first | exact q1 | exact q2 | exact q3)).mono ?_; rintro e w' ⟨rfl, hw⟩; subst w'))
    all_goals
      go_ret3
      exact ⟨tr_eq (by rw [trT, unhide HV]; simp; omega) (by rw [trK, unhide HV]; simp; omega) (unhide HV).symm, rfl⟩

theorem implTrimTick_any (t h k : Int) (w : World) :
    Calls Try.prog 26 #[.int .i64 t, .int .i64 h, .int .i64 k] w fun e w' => e = .returned (.tuple #[.int .i64 (trT t h k), .int .i64 (trK t h k), .bool (trB t h k)]) ∧ Below w.heap.size w w' :=
  (implTrimTick_same t h k w).mono fun _ _ ⟨a, b⟩ => ⟨a, by rw [b]; exact Below.refl _ _⟩


end Go.Proofs.Ytbaocifpifbldad
