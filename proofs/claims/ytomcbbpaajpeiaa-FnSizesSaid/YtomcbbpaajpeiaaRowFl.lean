/-
  The law's copy and comparison of a list of floats, and its marks. The copy at lists of at most 1048576; nothing that was there is written.
-/
import Derived.Test.YtomcbbpaajpeiaaSameFl
import Derived.Test.YtomcbbpaajpeiaaRowE
import Derived.Test.YtomcbbpaajpeiaaMarkPureC
import Derived.Deep.DrawnRows
import Derived.Deep.RegionHeld3
namespace Go.Proofs.Ytomcbbpaajpeiaa
open Go.RowKit
attribute [local go_sem ↓] Go.wp_at_zero Go.wp_at_succ
attribute [local go_sem] run_store_float

/-- A float's one cell. -/
def flC (x : Nat) : Nat → Value | _ => .float .f64 x

theorem infoFl : (Try.prog.info? 29).map (fun i => (i.zero, i.size, i.bytes)) = some (some (.float .f64 0), 1, 8) := by kernel_rfl


/-- After n rounds of the marking. -/
def markFl (ps : List Nat) (k : Int) : Nat → List Nat
  | 0 => ps
  | n + 1 => (markFl ps k n).set n (fint (k + n))
theorem markFl_len (ps : List Nat) (k : Int) (n : Nat) : (markFl ps k n).length = ps.length := by
  induction n with
  | zero => rfl
  | succ n ih => simp [markFl, ih]
theorem markFl_at (ps : List Nat) (k : Int) : ∀ n, n ≤ ps.length → ∀ i, i < n → elAt (markFl ps k n) i = fint (k + i) := by
  intro n
  induction n with
  | zero => intro _ i hi; omega
  | succ n ih =>
    intro hn i hi
    have hl : n < (markFl ps k n).length := by rw [markFl_len]; omega
    show elAt ((markFl ps k n).set n (fint (k + n))) i = _
    rw [elAt_set _ _ _ _ hl]
    by_cases e : i = n
    · subst e; simp
    · rw [if_neg e]; exact ih (by omega) i (by omega)



end Go.Proofs.Ytomcbbpaajpeiaa
