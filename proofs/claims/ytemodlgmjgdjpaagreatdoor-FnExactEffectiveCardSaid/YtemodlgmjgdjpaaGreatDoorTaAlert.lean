/-
  Alert of the model and of the program: the plain answer, at every argument; nothing that was there is written.
-/
import Derived.Test.YtemodlgmjgdjpaaGreatDoorMFrac
namespace Go.Proofs.YtemodlgmjgdjpaaGreatDoor
open Go.RowKit

theorem al_no {gs : List Int} {h c m : Int} (hv : alOk gs h c m = false) : alR gs h c m = -1 ∧ alB gs h c m = false := by simp [alR, alB, hv]
theorem al_here {gs : List Int} {h c m : Int} {k : Nat} (hv : alOk gs h c m = true) (hk : k < gs.length) (e : alF gs h c m = k) : alR gs h c m = k ∧ alB gs h c m = true := by
  have : alB gs h c m = true := by simp [alB, hv, e, hk]
  simp [alR, this, e]
theorem al_none {gs : List Int} {h c m : Int} (e : alF gs h c m = gs.length) : alR gs h c m = -1 ∧ alB gs h c m = false := by
  have : alB gs h c m = false := by simp [alB, e]
  simp [alR, this]





end Go.Proofs.YtemodlgmjgdjpaaGreatDoor
