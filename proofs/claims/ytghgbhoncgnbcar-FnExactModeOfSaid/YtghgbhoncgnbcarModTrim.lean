/-
  What ModeOf and TrimTick answer in the model and in the program: as the plain functions. At every argument; no memory is written.
-/
import Derived.Test.YtghgbhoncgnbcarSmall
import Derived.Test.YtghgbhoncgnbcarMinMax
import Derived.Test.YtghgbhoncgnbcarCtlPure
namespace Go.Proofs.Ytghgbhoncgnbcar
open Go.RowKit

theorem tr_eq {a b c d : Int} {p q : Bool} (h1 : a = b) (h2 : c = d) (h3 : p = q) : Ending.returned (.tuple #[.int .i64 a, .int .i64 c, .bool p]) = .returned (.tuple #[.int .i64 b, .int .i64 d, .bool q]) := by rw [h1, h2, h3]

set_option maxHeartbeats 2000000 in
theorem specModeOf_any (a : Int) (b : Bool) (c : Int) (w : World) :
    Calls Try.prog 24 #[.int .i64 a, .bool b, .int .i64 c] w fun e w' => e = .returned (.int .i64 (modR a b c)) ∧ Below w.heap.size w w' := by
  by_cases h1 : a < 2
  all_goals by_cases h2 : 2 < c
  all_goals cases b
  all_goals by_cases h3 : 0 < c
  all_goals first
    | omega
    | (go_enter Try.func24, Try.ntmps24
       go_wp2
       go_ret
       exact ⟨ret_int (by unfold modR; simp; omega), Below.refl _ _⟩)

set_option maxHeartbeats 2000000 in
theorem implModeOf_any (a : Int) (b : Bool) (c : Int) (w : World) :
    Calls Try.prog 25 #[.int .i64 a, .bool b, .int .i64 c] w fun e w' => e = .returned (.int .i64 (modR a b c)) ∧ Below w.heap.size w w' := by
  by_cases h1 : a < 2
  all_goals by_cases h2 : 2 < c
  all_goals cases b
  all_goals by_cases h3 : 0 < c
  all_goals first
    | omega
    | (go_enter Try.func25, Try.ntmps25
       go_wp2
       go_ret
       exact ⟨ret_int (by unfold modR; simp; omega), Below.refl _ _⟩)


end Go.Proofs.Ytghgbhoncgnbcar
