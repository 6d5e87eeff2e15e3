/-
  A text that is not empty has a list that is not empty. No condition.
-/
import Derived.Test.YtfnnfldfnjnlfagRlCar
namespace Go.Proofs.Ytfnnfldfnjnlfag
open Go Go.RowKit

theorem nz_list {x : ByteArray} (h : x ≠ ⟨#[]⟩) : x.toList.isEmpty = false := by
  have d := txl_no h
  rw [show (⟨#[]⟩ : ByteArray).toList = [] by kernel_rfl] at d
  cases q : x.toList with
  | nil => rw [q] at d; simp at d
  | cons _ _ => rfl

end Go.Proofs.Ytfnnfldfnjnlfag
