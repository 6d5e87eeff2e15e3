/-
  A list of pairs whose first numbers were marked: the next number at each place. No program here.
-/
import Derived.Test.YtbaocifpifbldajOwn2
namespace Go.Proofs.Ytbaocifpifbldaj

/-- The first n pairs marked with k, k + 1, k + 2 .. -/
def markL (ps : List (Int × Int)) (k : Int) : Nat → List (Int × Int)
  | 0 => ps
  | n + 1 => ((markL ps k n).set n (k + 2 * n, sndAt (markL ps k n) n)).set n (k + 2 * n, k + 2 * n + 1)
theorem markL_succ (ps : List (Int × Int)) (k : Int) (n : Nat) : markL ps k (n + 1) = ((markL ps k n).set n (k + 2 * n, sndAt (markL ps k n) n)).set n (k + 2 * n, k + 2 * n + 1) := rfl
theorem markL_len (ps : List (Int × Int)) (k : Int) (n : Nat) : (markL ps k n).length = ps.length := by
  induction n with
  | zero => rfl
  | succ n ih => simp [markL_succ, ih]
theorem markL_at (ps : List (Int × Int)) (k : Int) : ∀ n, n ≤ ps.length → ∀ i, i < n → fstAt (markL ps k n) i = k + 2 * i ∧ sndAt (markL ps k n) i = k + 2 * i + 1 := by
  intro n
  induction n with
  | zero => intro _ i hi; omega
  | succ n ih =>
    intro hn i hi
    have hl : n < (markL ps k n).length := by rw [markL_len]; omega
    rw [markL_succ, fstAt_set _ _ _ _ _ (by simpa using hl), sndAt_set _ _ _ _ _ (by simpa using hl)]
    by_cases e : i = n
    · subst e; simp
    · rw [if_neg e, if_neg e, fstAt_set _ _ _ _ _ hl, sndAt_set _ _ _ _ _ hl, if_neg e, if_neg e]
      exact ih (by omega) i (by omega)

end Go.Proofs.Ytbaocifpifbldaj
