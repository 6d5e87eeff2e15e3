/-
  The mean of what is there, in plain numbers. No program here.
-/
import Derived.Test.YtgihdklgmndeeabRowE
import Derived.Test.YtgihdklgmndeeabMarkPureC
namespace Go.Proofs.Ytgihdklgmndeeab
open Go

/-- The sum and the count of the first k numbers that are there. -/
def msum (ps : List Nat) : Nat → Nat
  | 0 => 0
  | k + 1 => if nanB .f64 (elAt ps k) = true then msum ps k else fl .add .f64 (msum ps k) (elAt ps k)
def mcnt (ps : List Nat) : Nat → Nat
  | 0 => 0
  | k + 1 => if nanB .f64 (elAt ps k) = true then mcnt ps k else mcnt ps k + 1
theorem mcnt_le (ps : List Nat) (k : Nat) : mcnt ps k ≤ k := by
  induction k with
  | zero => exact Nat.le_refl _
  | succ k ih => unfold mcnt; split <;> omega
theorem msum_nan {ps : List Nat} {k : Nat} (h : nanB .f64 (elAt ps k) = true) : msum ps (k + 1) = msum ps k ∧ mcnt ps (k + 1) = mcnt ps k := ⟨if_pos h, if_pos h⟩
theorem msum_num {ps : List Nat} {k : Nat} (h : nanB .f64 (elAt ps k) = false) : msum ps (k + 1) = fl .add .f64 (msum ps k) (elAt ps k) ∧ mcnt ps (k + 1) = mcnt ps k + 1 := ⟨if_neg (by rw [h]; simp), if_neg (by rw [h]; simp)⟩
/-- What is told. -/
def meanB (ps : List Nat) : Bool := decide (ps.length ≤ 60) && decide (0 < mcnt ps ps.length)
def meanX (ps : List Nat) : Nat := if meanB ps = true then fl .quo .f64 (msum ps ps.length) (fint (mcnt ps ps.length)) else 0
def meanN (ps : List Nat) : Int := if meanB ps = true then (mcnt ps ps.length : Int) else 0

end Go.Proofs.Ytgihdklgmndeeab
