/-
  Which parts are due, in plain numbers. No program here.
-/
import Derived.Test.YtilahgifaglekbbLeftPure
namespace Go.Proofs.Ytilahgifaglekbb
open Go

/-- Whether the bound at a place is there and met. -/
def metAt (b0 b1 b2 s0 s1 s2 : Int) (k : Nat) : Bool := decide (of3 b0 b1 b2 k ≠ 0) && decide (of3 b0 b1 b2 k ≤ of3 s0 s1 s2 k)
/-- Whether some bound is met. -/
def metB (b0 b1 b2 s0 s1 s2 : Int) : Bool := metAt b0 b1 b2 s0 s1 s2 0 || metAt b0 b1 b2 s0 s1 s2 1 || metAt b0 b1 b2 s0 s1 s2 2
theorem metB_yes {b0 b1 b2 s0 s1 s2 : Int} {k : Nat} (hk : k < 3) (h : metAt b0 b1 b2 s0 s1 s2 k = true) : metB b0 b1 b2 s0 s1 s2 = true := by
  unfold metB
  rcases (show k = 0 ∨ k = 1 ∨ k = 2 from by omega) with rfl | rfl | rfl <;> simp [h]
theorem metB_no {b0 b1 b2 s0 s1 s2 : Int} (h : ∀ j, j < 3 → metAt b0 b1 b2 s0 s1 s2 j = false) : metB b0 b1 b2 s0 s1 s2 = false := by
  unfold metB
  rw [h 0 (by omega), h 1 (by omega), h 2 (by omega)]; rfl

end Go.Proofs.Ytilahgifaglekbb
