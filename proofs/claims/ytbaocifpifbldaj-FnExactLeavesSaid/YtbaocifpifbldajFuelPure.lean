/-
  Plain mathematics of Leaves: a dry sum's test, the sum of a dry sum and tanks, and what one burn takes from it. No program here.
-/
import Derived.Test.YtbaocifpifbldajBurnPure
import Derived.Test.YtbaocifpifbldajInsPure
namespace Go.Proofs.Ytbaocifpifbldaj

def dryB (dm dq : Int) : Bool := inB dm 0 400000 && inB dq (-100000000) 100000000
theorem dry_facts {dm dq : Int} (h : dryB dm dq = true) : (0 ≤ dm ∧ dm ≤ 400000) ∧ (-100000000 ≤ dq ∧ dq ≤ 100000000) := by
  simp only [dryB, Bool.and_eq_true] at h
  exact ⟨in_facts h.1, in_facts h.2⟩

end Go.Proofs.Ytbaocifpifbldaj
