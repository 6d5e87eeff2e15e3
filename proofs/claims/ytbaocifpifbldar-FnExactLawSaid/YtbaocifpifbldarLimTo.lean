/-
  The law's copies of limits and of a stick. No condition.
-/
import Derived.Test.YtbaocifpifbldarBlks
import Derived.Test.YtbaocifpifbldarChecked
namespace Go.Proofs.Ytbaocifpifbldar
open Go.RowKit

set_option maxHeartbeats 1000000 in
theorem toLimits_any (s p f : Int) (w : World) :
    Calls Try.prog 22 #[.agg #[.int .i64 s, .int .i64 p, .int .i64 f]] w fun x w' => x = .returned (.agg #[.int .i64 s, .int .i64 p, .int .i64 f]) ∧ Below w.heap.size w w' := by
  go_enter Try.func22, Try.ntmps22
  go_wp2
  refine bodyPost_ret (v := .agg #[.int .i64 s, .int .i64 p, .int .i64 f]) (by simp [results, Try.results22, go_sem]) rfl ⟨rfl, ?_⟩
  repeat (first | exact Below.refl _ _ | refine Below.setCell ?_ (by simp; try omega) _ | refine Below.alloc ?_ (by simp; try omega) _)
set_option maxHeartbeats 1000000 in
theorem toStick_any (s p f g : Int) (w : World) :
    Calls Try.prog 21 #[.agg #[.int .i64 s, .int .i64 p, .int .i64 f, .int .i64 g]] w fun x w' => x = .returned (.agg #[.int .i64 s, .int .i64 p, .int .i64 f, .int .i64 g]) ∧ Below w.heap.size w w' := by
  go_enter Try.func21, Try.ntmps21
  go_wp2
  refine bodyPost_ret (v := .agg #[.int .i64 s, .int .i64 p, .int .i64 f, .int .i64 g]) (by simp [results, Try.results21, go_sem]) rfl ⟨rfl, ?_⟩
  repeat (first | exact Below.refl _ _ | refine Below.setCell ?_ (by simp; try omega) _ | refine Below.alloc ?_ (by simp; try omega) _)

end Go.Proofs.Ytbaocifpifbldar
