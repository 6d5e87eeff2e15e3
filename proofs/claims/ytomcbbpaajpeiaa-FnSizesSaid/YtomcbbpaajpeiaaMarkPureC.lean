/-
  A list of complex numbers whose parts were marked: the next whole number at each place. No program here.
-/
import Derived.Test.YtomcbbpaajpeiaaOwnC
import Derived.Test.YtomcbbpaajpeiaaFlFin
namespace Go.Proofs.Ytomcbbpaajpeiaa
open Go

def fint (n : Int) : Nat := floatOfInt .f64 n
theorem fint_nan (n : Int) : nanB .f64 (fint n) = false := by
  refine Bool.eq_false_iff.2 fun hc => ?_
  have h := (read_cases _ (binade_inf .f64) _).1.1 hc
  have hw : ∃ r, r ≤ FloatKind.f64.format.infRung ∧ fint n = FloatKind.f64.format.word (decide (n < 0)) r := by
    show ∃ r, r ≤ FloatKind.f64.format.infRung ∧ FloatKind.f64.format.nearest (decide (n < 0)) n.natAbs 0 = FloatKind.f64.format.word (decide (n < 0)) r
    unfold Ieee.Format.nearest
    split
    · exact ⟨0, Nat.zero_le _, rfl⟩
    · exact ⟨_, Nat.min_le_right _ _, rfl⟩
  obtain ⟨r, hr, e⟩ := hw
  rw [e] at h
  rw [inf64] at hr h
  unfold Ieee.Format.word at h
  rw [sw64] at h
  split at h <;> omega
theorem fint_same (n : Int) : (FloatKind.f64.format.order (fint n) (fint n) != some .eq) = false := by rw [order_self_ne]; exact fint_nan n

/-- The first n pairs marked with k, k + 1, k + 2 .. -/
def markC (ps : List (Nat × Nat)) (k : Int) : Nat → List (Nat × Nat)
  | 0 => ps
  | n + 1 => ((markC ps k n).set n (fint (k + 2 * n), imAt (markC ps k n) n)).set n (fint (k + 2 * n), fint (k + 2 * n + 1))
theorem markC_succ (ps : List (Nat × Nat)) (k : Int) (n : Nat) : markC ps k (n + 1) = ((markC ps k n).set n (fint (k + 2 * n), imAt (markC ps k n) n)).set n (fint (k + 2 * n), fint (k + 2 * n + 1)) := rfl
theorem markC_len (ps : List (Nat × Nat)) (k : Int) (n : Nat) : (markC ps k n).length = ps.length := by
  induction n with
  | zero => rfl
  | succ n ih => simp [markC_succ, ih]
theorem markC_at (ps : List (Nat × Nat)) (k : Int) : ∀ n, n ≤ ps.length → ∀ i, i < n → reAt (markC ps k n) i = fint (k + 2 * i) ∧ imAt (markC ps k n) i = fint (k + 2 * i + 1) := by
  intro n
  induction n with
  | zero => intro _ i hi; omega
  | succ n ih =>
    intro hn i hi
    have hl : n < (markC ps k n).length := by rw [markC_len]; omega
    rw [markC_succ, reAt_set _ _ _ _ _ (by simpa using hl), imAt_set _ _ _ _ _ (by simpa using hl)]
    by_cases e : i = n
    · subst e; simp
    · rw [if_neg e, if_neg e, reAt_set _ _ _ _ _ hl, imAt_set _ _ _ _ _ hl, if_neg e, if_neg e]
      exact ih (by omega) i (by omega)

end Go.Proofs.Ytomcbbpaajpeiaa
