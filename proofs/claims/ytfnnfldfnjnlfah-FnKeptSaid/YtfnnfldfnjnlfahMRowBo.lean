/-
  The law's size, copy and comparison of a list of bools, and its marks. The copy at lists of at most 1048576; nothing that was there is written, the marks only into the list's own memory.
  The law's size, copy and comparison of a list of bytes, and its marks. The copy at lists of at most 1048576; nothing that was there is written, the marks only into the list's own memory.
  Bytes written out in the text, as a list in memory of its own. No condition but that they are at most 100.
-/
import Derived.Test.YtfnnfldfnjnlfahMCkPure
import Derived.Test.YtfnnfldfnjnlfahRowE
import Derived.Deep.DrawnRows
import Derived.Deep.RegionHeld3
import Derived.Laws.OwnMore

namespace Go.Proofs.Ytfnnfldfnjnlfah
open Go.RowKit
attribute [local go_sem ↓] Go.wp_at_zero Go.wp_at_succ

/-- A bool's one cell. -/
def boC (x : Bool) : Nat → Value | _ => .bool x

theorem infoBo : (Try.prog.info? 4).map (fun i => (i.zero, i.size, i.bytes)) = some (some (.bool false), 1, 1) := by kernel_rfl



/-- The mark of a place. -/
def thirdB (k : Int) : Bool := k % 3 == 0
/-- After n rounds of the marking. -/
def markBo (ps : List Bool) (k : Int) : Nat → List Bool
  | 0 => ps
  | n + 1 => (markBo ps k n).set n (thirdB (k + n))
theorem markBo_len (ps : List Bool) (k : Int) (n : Nat) : (markBo ps k n).length = ps.length := by
  induction n with
  | zero => rfl
  | succ n ih => simp [markBo, ih]
theorem markBo_at (ps : List Bool) (k : Int) : ∀ n, n ≤ ps.length → ∀ i, i < n → elAt (markBo ps k n) i = thirdB (k + i) := by
  intro n
  induction n with
  | zero => intro _ i hi; omega
  | succ n ih =>
    intro hn i hi
    have hl : n < (markBo ps k n).length := by rw [markBo_len]; omega
    show elAt ((markBo ps k n).set n (thirdB (k + n))) i = _
    rw [elAt_set _ _ _ _ hl]
    by_cases e : i = n
    · subst e; simp
    · rw [if_neg e]; exact ih (by omega) i (by omega)



end Go.Proofs.Ytfnnfldfnjnlfah

namespace Go.Proofs.Ytfnnfldfnjnlfah
open Go.RowKit
attribute [local go_sem ↓] Go.wp_at_zero Go.wp_at_succ

/-- A byte's one cell. -/
def byC (x : Int) : Nat → Value | _ => .int .u8 x

theorem infoBy : (Try.prog.info? 5).map (fun i => (i.zero, i.size, i.bytes)) = some (some (.int .u8 0), 1, 1) := by kernel_rfl



/-- The mark of a place. -/
def markY (k : Int) : Int := IntKind.u8.wrap k
/-- After n rounds of the marking. -/
def markBy (ps : List Int) (k : Int) : Nat → List Int
  | 0 => ps
  | n + 1 => (markBy ps k n).set n (markY (k + n))
theorem markBy_len (ps : List Int) (k : Int) (n : Nat) : (markBy ps k n).length = ps.length := by
  induction n with
  | zero => rfl
  | succ n ih => simp [markBy, ih]
theorem markBy_at (ps : List Int) (k : Int) : ∀ n, n ≤ ps.length → ∀ i, i < n → elAt (markBy ps k n) i = markY (k + i) := by
  intro n
  induction n with
  | zero => intro _ i hi; omega
  | succ n ih =>
    intro hn i hi
    have hl : n < (markBy ps k n).length := by rw [markBy_len]; omega
    show elAt ((markBy ps k n).set n (markY (k + n))) i = _
    rw [elAt_set _ _ _ _ hl]
    by_cases e : i = n
    · subst e; simp
    · rw [if_neg e]; exact ih (by omega) i (by omega)



end Go.Proofs.Ytfnnfldfnjnlfah

namespace Go.Proofs.Ytfnnfldfnjnlfah
open Go.RowKit

theorem byL_lit {base : Nat} (w : World) (zs : List Int) (hb : base ≤ w.heap.size) (hn : zs.length ≤ 100) : OwnE 1 byC (w.alloc (Obj.cells (zs.map (Value.int .u8)).toArray 5)) base 5 (.slice (some ⟨w.heap.size, 0, none⟩) zs.length zs.length) zs := by
  refine ⟨⟨_, World.ownsRow_lit w _ zs.length hb (by unfold maxLen; omega) (by simp), fun j hj q hq => ?_⟩⟩
  obtain rfl : q = 0 := by omega
  simp [elAt, byC, hj]

end Go.Proofs.Ytfnnfldfnjnlfah
