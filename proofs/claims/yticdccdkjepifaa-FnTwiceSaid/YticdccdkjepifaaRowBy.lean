/-
  The law's size, copy and comparison of a list of bytes, and its marks. The copy at lists of at most 1048576; nothing that was there is written, the marks only into the list's own memory.
-/
import Derived.Test.YticdccdkjepifaaSmall
import Derived.Test.YticdccdkjepifaaRowE
import Derived.Deep.DrawnRows
import Derived.Deep.RegionHeld3
namespace Go.Proofs.Yticdccdkjepifaa
open Go.RowKit
attribute [local go_sem ↓] Go.wp_at_zero Go.wp_at_succ

/-- A byte's one cell. -/
def byC (x : Int) : Nat → Value | _ => .int .u8 x

theorem infoBy : (Try.prog.info? 5).map (fun i => (i.zero, i.size, i.bytes)) = some (some (.int .u8 0), 1, 1) := by kernel_rfl



/-- The mark of a place. -/
def markY (k : Int) : Int := IntKind.u8.wrap k
/-- After n rounds of the marking. -/
def markBy (ps : List Int) (k : Int) : Nat → List Int
  | 0 => ps
  | n + 1 => (markBy ps k n).set n (markY (k + n))
theorem markBy_len (ps : List Int) (k : Int) (n : Nat) : (markBy ps k n).length = ps.length := by
  induction n with
  | zero => rfl
  | succ n ih => simp [markBy, ih]
theorem markBy_at (ps : List Int) (k : Int) : ∀ n, n ≤ ps.length → ∀ i, i < n → elAt (markBy ps k n) i = markY (k + i) := by
  intro n
  induction n with
  | zero => intro _ i hi; omega
  | succ n ih =>
    intro hn i hi
    have hl : n < (markBy ps k n).length := by rw [markBy_len]; omega
    show elAt ((markBy ps k n).set n (markY (k + n))) i = _
    rw [elAt_set _ _ _ _ hl]
    by_cases e : i = n
    · subst e; simp
    · rw [if_neg e]; exact ih (by omega) i (by omega)



end Go.Proofs.Yticdccdkjepifaa
