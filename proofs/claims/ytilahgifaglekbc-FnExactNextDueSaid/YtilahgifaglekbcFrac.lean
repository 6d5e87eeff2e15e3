/-
  What the fractions of the model and of the program are: lowest terms by the greatest common divisor, the same in both, wherever the numerator is at most 10^15 either way and the denominator in 1 .. 10^15; nothing that was there is written.
-/
import Derived.Test.YtilahgifaglekbcMake
namespace Go.Proofs.Ytilahgifaglekbc
open Go.RowKit

def fracN (n d : Int) : Int := n.tdiv (Int.gcd n d)
def fracD (n d : Int) : Int := d / (Int.gcd n d)

theorem gcd_stepT (a b : Int) : Int.gcd b (a.tmod b) = Int.gcd a b := by
  unfold Int.gcd
  rw [Int.natAbs_tmod, Nat.gcd_comm a.natAbs b.natAbs, Nat.gcd_comm b.natAbs (a.natAbs % b.natAbs), ← Nat.gcd_rec]
theorem gcd_stepE (a b : Int) (ha : 0 ≤ a) : Int.gcd b (a % b) = Int.gcd a b := by
  have e : a.tmod b = a % b := Int.tmod_eq_emod_of_nonneg ha
  rw [← e]; exact gcd_stepT a b
theorem gcd_pos (n d : Int) (h : 1 ≤ d) : (1 : Int) ≤ (Int.gcd n d : Int) := by
  have : 0 < Int.gcd n d := Nat.gcd_pos_of_pos_right _ (by omega)
  omega
theorem gcd_le (n d : Int) (h : 1 ≤ d) : (Int.gcd n d : Int) ≤ d := by
  have : Int.gcd n d ≤ d.natAbs := Nat.gcd_le_right _ (by omega)
  omega

/-- The copying of two numbers by Euclid, both at least 0. -/
theorem emod_lt (a b : Int) (hb : 0 < b) : 0 ≤ a % b ∧ a % b < b := ⟨Int.emod_nonneg _ (by omega), Int.emod_lt_of_pos _ hb⟩

end Go.Proofs.Ytilahgifaglekbc
