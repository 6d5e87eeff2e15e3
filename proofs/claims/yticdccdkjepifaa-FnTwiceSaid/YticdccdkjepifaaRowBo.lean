/-
  The law's size, copy and comparison of a list of bools, and its marks. The copy at lists of at most 1048576; nothing that was there is written, the marks only into the list's own memory.
-/
import Derived.Test.YticdccdkjepifaaSmall
import Derived.Test.YticdccdkjepifaaRowE
import Derived.Deep.DrawnRows
import Derived.Deep.RegionHeld3
namespace Go.Proofs.Yticdccdkjepifaa
open Go.RowKit
attribute [local go_sem ↓] Go.wp_at_zero Go.wp_at_succ

/-- A bool's one cell. -/
def boC (x : Bool) : Nat → Value | _ => .bool x

theorem infoBo : (Try.prog.info? 4).map (fun i => (i.zero, i.size, i.bytes)) = some (some (.bool false), 1, 1) := by kernel_rfl



/-- The mark of a place. -/
def thirdB (k : Int) : Bool := k % 3 == 0
/-- After n rounds of the marking. -/
def markBo (ps : List Bool) (k : Int) : Nat → List Bool
  | 0 => ps
  | n + 1 => (markBo ps k n).set n (thirdB (k + n))
theorem markBo_len (ps : List Bool) (k : Int) (n : Nat) : (markBo ps k n).length = ps.length := by
  induction n with
  | zero => rfl
  | succ n ih => simp [markBo, ih]
theorem markBo_at (ps : List Bool) (k : Int) : ∀ n, n ≤ ps.length → ∀ i, i < n → elAt (markBo ps k n) i = thirdB (k + i) := by
  intro n
  induction n with
  | zero => intro _ i hi; omega
  | succ n ih =>
    intro hn i hi
    have hl : n < (markBo ps k n).length := by rw [markBo_len]; omega
    show elAt ((markBo ps k n).set n (thirdB (k + n))) i = _
    rw [elAt_set _ _ _ _ hl]
    by_cases e : i = n
    · subst e; simp
    · rw [if_neg e]; exact ih (by omega) i (by omega)



end Go.Proofs.Yticdccdkjepifaa
