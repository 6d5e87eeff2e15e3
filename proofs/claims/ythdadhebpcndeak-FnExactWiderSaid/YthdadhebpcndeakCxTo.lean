/-
  The law's copy and comparison of a complex number: of one value it says so. No condition.
-/
import Derived.Test.YthdadhebpcndeakSameFl
namespace Go.Proofs.Ythdadhebpcndeak
open Go.RowKit
attribute [local go_sem] run_store_float run_store_complex

/-- A pair of floats as the program holds it. -/
def cx (x y : Nat) : Value := .agg #[.float .f64 x, .float .f64 y]

set_option maxHeartbeats 1000000 in
theorem eqCx_alike (a b c d : Nat) (w : World) (h1 : Alike .f64 a c) (h2 : Alike .f64 b d) :
    Calls Try.prog 33 #[.agg #[.float .f64 a, .float .f64 b], .agg #[.float .f64 c, .float .f64 d]] w fun e w' => e = .returned (.bool true) ∧ Below w.heap.size w w' := by
  have H1 := hide h1
  have H2 := hide h2
  clear h1 h2
  go_enter Try.func33, Try.ntmps33
  go_wp2_with fail
  refine (sameFloat_alike _ _ _ (unhide H1)).mono ?_
  rintro e w1 ⟨rfl, n1, rfl⟩
  go_wp2_with fail
  refine (sameFloat_alike _ _ _ (unhide H2)).mono ?_
  rintro e w1 ⟨rfl, n2, rfl⟩
  go_wp2_with fail
  go_ret
  exact ⟨rfl, by simpa using bel2d _ _ _⟩

end Go.Proofs.Ythdadhebpcndeak
