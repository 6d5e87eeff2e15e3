/-
  Alert of the model and of the program: the plain answer, at every argument; nothing that was there is written.
  The law's copy and comparison of a Window: of one value it says so. No condition.
-/
import Derived.Test.YtemodlgmjgdjpaaGreatDoorMFrac
import Derived.Test.YtemodlgmjgdjpaaGreatDoorChecked
import Derived.Test.YtemodlgmjgdjpaaGreatDoorMBase
import Derived.Test.YtemodlgmjgdjpaaGreatDoorMRowE

namespace Go.Proofs.YtemodlgmjgdjpaaGreatDoor
open Go.RowKit

theorem al_no {gs : List Int} {h c m : Int} (hv : alOk gs h c m = false) : alR gs h c m = -1 ∧ alB gs h c m = false := by simp [alR, alB, hv]
theorem al_here {gs : List Int} {h c m : Int} {k : Nat} (hv : alOk gs h c m = true) (hk : k < gs.length) (e : alF gs h c m = k) : alR gs h c m = k ∧ alB gs h c m = true := by
  have : alB gs h c m = true := by simp [alB, hv, e, hk]
  simp [alR, this, e]
theorem al_none {gs : List Int} {h c m : Int} (e : alF gs h c m = gs.length) : alR gs h c m = -1 ∧ alB gs h c m = false := by
  have : alB gs h c m = false := by simp [alB, e]
  simp [alR, this]





end Go.Proofs.YtemodlgmjgdjpaaGreatDoor

namespace Go.Proofs.YtemodlgmjgdjpaaGreatDoor
open Go.RowKit

/-- What a Window holds. -/
structure Wn where
  a0 : Int
  a1 : Int
  a2 : Int
instance : Inhabited Wn := ⟨⟨0, 0, 0⟩⟩
/-- Its cells. -/
def wnC (m : Wn) : Nat → Value
  | 0 => .int .i64 m.a0
  | 1 => .int .i64 m.a1
  | _ => .int .i64 m.a2
def wnAlike (m n : Wn) : Prop := m.a0 = n.a0 ∧ m.a1 = n.a1 ∧ m.a2 = n.a2
theorem wnAlike_refl (m : Wn) : wnAlike m m := ⟨rfl, rfl, rfl⟩
theorem wnAlike.symm {m n : Wn} (h : wnAlike m n) : wnAlike n m := ⟨h.1.symm, h.2.1.symm, h.2.2.symm⟩
theorem wnAlike.trans {m n l : Wn} (h : wnAlike m n) (g : wnAlike n l) : wnAlike m l := ⟨h.1.trans g.1, h.2.1.trans g.2.1, h.2.2.trans g.2.2⟩



end Go.Proofs.YtemodlgmjgdjpaaGreatDoor
