/-
  The law's copy and comparison of a Window: of one value it says so. No condition.
-/
import Derived.Test.YtndhiecakojjgafChecked
import Derived.Test.YtndhiecakojjgafBase
import Derived.Test.YtndhiecakojjgafRowE
namespace Go.Proofs.Ytndhiecakojjgaf
open Go.RowKit

/-- What a Window holds. -/
structure Wn where
  a0 : Int
  a1 : Int
  a2 : Int
instance : Inhabited Wn := ⟨⟨0, 0, 0⟩⟩
/-- Its cells. -/
def wnC (m : Wn) : Nat → Value
  | 0 => .int .i64 m.a0
  | 1 => .int .i64 m.a1
  | _ => .int .i64 m.a2
def wnAlike (m n : Wn) : Prop := m.a0 = n.a0 ∧ m.a1 = n.a1 ∧ m.a2 = n.a2
theorem wnAlike_refl (m : Wn) : wnAlike m m := ⟨rfl, rfl, rfl⟩
theorem wnAlike.symm {m n : Wn} (h : wnAlike m n) : wnAlike n m := ⟨h.1.symm, h.2.1.symm, h.2.2.symm⟩
theorem wnAlike.trans {m n l : Wn} (h : wnAlike m n) (g : wnAlike n l) : wnAlike m l := ⟨h.1.trans g.1, h.2.1.trans g.2.1, h.2.2.trans g.2.2⟩



end Go.Proofs.Ytndhiecakojjgaf
