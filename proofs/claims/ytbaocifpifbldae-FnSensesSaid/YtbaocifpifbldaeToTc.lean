/-
  The law's copy and comparison of a Track: of one value it says so. No condition.
-/
import Derived.Test.YtbaocifpifbldaeChecked
import Derived.Test.YtbaocifpifbldaeBase
import Derived.Test.YtbaocifpifbldaeRowE
namespace Go.Proofs.Ytbaocifpifbldae
open Go.RowKit

/-- What a Track holds. -/
structure Tc where
  a0 : Int
  a1 : Int
  a2 : Int
  a3 : Int
  a4 : Int
  a5 : Int
instance : Inhabited Tc := ⟨⟨0, 0, 0, 0, 0, 0⟩⟩
/-- Its cells. -/
def tcC (m : Tc) : Nat → Value
  | 0 => .int .i64 m.a0
  | 1 => .int .i64 m.a1
  | 2 => .int .i64 m.a2
  | 3 => .int .i64 m.a3
  | 4 => .int .i64 m.a4
  | _ => .int .i64 m.a5
def tcAlike (m n : Tc) : Prop := m.a0 = n.a0 ∧ m.a1 = n.a1 ∧ m.a2 = n.a2 ∧ m.a3 = n.a3 ∧ m.a4 = n.a4 ∧ m.a5 = n.a5
theorem tcAlike_refl (m : Tc) : tcAlike m m := ⟨rfl, rfl, rfl, rfl, rfl, rfl⟩
theorem tcAlike.symm {m n : Tc} (h : tcAlike m n) : tcAlike n m := ⟨h.1.symm, h.2.1.symm, h.2.2.1.symm, h.2.2.2.1.symm, h.2.2.2.2.1.symm, h.2.2.2.2.2.symm⟩
theorem tcAlike.trans {m n l : Tc} (h : tcAlike m n) (g : tcAlike n l) : tcAlike m l := ⟨h.1.trans g.1, h.2.1.trans g.2.1, h.2.2.1.trans g.2.2.1, h.2.2.2.1.trans g.2.2.2.1, h.2.2.2.2.1.trans g.2.2.2.2.1, h.2.2.2.2.2.trans g.2.2.2.2.2⟩



end Go.Proofs.Ytbaocifpifbldae
