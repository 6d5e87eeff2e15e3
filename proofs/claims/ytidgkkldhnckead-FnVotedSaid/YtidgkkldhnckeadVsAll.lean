/-
  What the model's Vote answers: as the plain functions. At lists of at most 1048576 that are not nil; nothing that was there is written.
-/
import Derived.Test.YtidgkkldhnckeadVsVote
import Derived.Test.YtidgkkldhnckeadVsMid
namespace Go.Proofs.Ytidgkkldhnckead
open Go.RowKit

theorem votO_len (n h : Int) (bs : List Bool) (os zs : List Int) : (votOut n h bs os zs).length ≤ bs.length := by
  unfold votOut; split
  · simp; omega
  · exact Nat.le_refl _
theorem votD_len (n h : Int) (bs : List Bool) (os zs : List Int) : (votOdd n h bs os zs).length ≤ os.length := by
  unfold votOdd; split
  · rename_i e
    simp only [votMid, Bool.and_eq_true] at e
    have l := (voFit (seen_parts e.1).1).len
    rw [l]; simp; omega
  · exact Nat.le_refl _
end Go.Proofs.Ytidgkkldhnckead
