/-
  The law's copy and comparison of a complex number: of one value it says so. No condition.
-/
import Derived.Test.YthdadhebpcndeamSameFl
namespace Go.Proofs.Ythdadhebpcndeam
open Go.RowKit
attribute [local go_sem] run_store_float run_store_complex

/-- A pair of floats as the program holds it. -/
def cx (x y : Nat) : Value := .agg #[.float .f64 x, .float .f64 y]

set_option maxHeartbeats 1000000 in
theorem toCx_any (a b : Nat) (w : World) :
    Calls Try.prog 11 #[.agg #[.float .f64 a, .float .f64 b]] w fun e w' => e = .returned (.agg #[.float .f64 a, .float .f64 b]) ∧ Below w.heap.size w w' := by
  go_enter Try.func11, Try.ntmps11
  go_wp2
  refine bodyPost_ret (v := .agg #[.float .f64 a, .float .f64 b]) (by simp [results, Try.results11, go_sem]) rfl ⟨rfl, ?_⟩
  repeat (first | exact bel3 _ _ _ | refine Below.setCell ?_ (by simp; try omega) _)

set_option maxHeartbeats 1000000 in
theorem eqCx_alike (a b c d : Nat) (w : World) (h1 : Alike .f64 a c) (h2 : Alike .f64 b d) :
    Calls Try.prog 13 #[.agg #[.float .f64 a, .float .f64 b], .agg #[.float .f64 c, .float .f64 d]] w fun e w' => e = .returned (.bool true) ∧ Below w.heap.size w w' := by
  have H1 := hide h1
  have H2 := hide h2
  clear h1 h2
  go_enter Try.func13, Try.ntmps13
  go_wp2_with fail
  refine (sameFloat_alike _ _ _ (unhide H1)).mono ?_
  rintro e w1 ⟨rfl, n1, rfl⟩
  go_wp2_with fail
  refine (sameFloat_alike _ _ _ (unhide H2)).mono ?_
  rintro e w1 ⟨rfl, n2, rfl⟩
  go_wp2_with fail
  go_ret
  exact ⟨rfl, by simpa using bel2d _ _ _⟩

end Go.Proofs.Ythdadhebpcndeam
