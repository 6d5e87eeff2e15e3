/-
  Rules of warnings as a Lean structure: a name, a rank, the phases in which it is quiet, whether it latches, what it needs. No program here.
-/
import Derived.Test.YtglefolkecimabdLowPure
import Derived.Test.YtglefolkecimabdRowE
namespace Go.Proofs.Ytglefolkecimabd
open Go

structure Wr where
  n : ByteArray
  r : Int
  q : List Int
  l : Bool
  d : ByteArray
instance : Inhabited Wr := ⟨⟨⟨#[]⟩, 0, [], false, ⟨#[]⟩⟩⟩
/-- The first k phases together. -/
def wrTot (rs : List Wr) : Nat → Nat
  | 0 => 0
  | k + 1 => wrTot rs k + (elAt rs k).q.length
theorem wrTot_mono (rs : List Wr) {k m : Nat} (h : k ≤ m) : wrTot rs k ≤ wrTot rs m := by
  induction m with
  | zero => obtain rfl : k = 0 := by omega
            exact Nat.le_refl _
  | succ m ih =>
    by_cases e : k = m + 1
    · rw [e]; exact Nat.le_refl _
    · exact Nat.le_trans (ih (by omega)) (Nat.le_add_right _ _)

end Go.Proofs.Ytglefolkecimabd
