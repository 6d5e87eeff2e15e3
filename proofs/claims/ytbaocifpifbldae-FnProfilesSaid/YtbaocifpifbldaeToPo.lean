/-
  The law's copy and comparison of a Point: of one value it says so. No condition.
-/
import Derived.Test.YtbaocifpifbldaeChecked
import Derived.Test.YtbaocifpifbldaeBase
import Derived.Test.YtbaocifpifbldaeRowE
namespace Go.Proofs.Ytbaocifpifbldae
open Go.RowKit

/-- What a Point holds. -/
structure Po where
  a0 : Int
  a1 : Int
  a2 : Int
instance : Inhabited Po := ⟨⟨0, 0, 0⟩⟩
/-- Its cells. -/
def poC (m : Po) : Nat → Value
  | 0 => .int .i64 m.a0
  | 1 => .int .i64 m.a1
  | _ => .int .i64 m.a2
def poAlike (m n : Po) : Prop := m.a0 = n.a0 ∧ m.a1 = n.a1 ∧ m.a2 = n.a2
theorem poAlike_refl (m : Po) : poAlike m m := ⟨rfl, rfl, rfl⟩
theorem poAlike.symm {m n : Po} (h : poAlike m n) : poAlike n m := ⟨h.1.symm, h.2.1.symm, h.2.2.symm⟩
theorem poAlike.trans {m n l : Po} (h : poAlike m n) (g : poAlike n l) : poAlike m l := ⟨h.1.trans g.1, h.2.1.trans g.2.1, h.2.2.trans g.2.2⟩



end Go.Proofs.Ytbaocifpifbldae
