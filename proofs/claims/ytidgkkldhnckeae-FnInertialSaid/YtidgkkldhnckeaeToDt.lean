/-
  The law's copy and comparison of a Drift: of one value it says so. No condition.
-/
import Derived.Test.YtidgkkldhnckeaeChecked
import Derived.Test.YtidgkkldhnckeaeBase
import Derived.Test.YtidgkkldhnckeaeRowE
namespace Go.Proofs.Ytidgkkldhnckeae
open Go.RowKit

/-- What a Drift holds. -/
structure Dt where
  a0 : Int
  a1 : Int
  a2 : Int
  a3 : Int
instance : Inhabited Dt := ⟨⟨0, 0, 0, 0⟩⟩
/-- Its cells. -/
def dtC (m : Dt) : Nat → Value
  | 0 => .int .i64 m.a0
  | 1 => .int .i64 m.a1
  | 2 => .int .i64 m.a2
  | _ => .int .i64 m.a3
def dtAlike (m n : Dt) : Prop := m.a0 = n.a0 ∧ m.a1 = n.a1 ∧ m.a2 = n.a2 ∧ m.a3 = n.a3
theorem dtAlike_refl (m : Dt) : dtAlike m m := ⟨rfl, rfl, rfl, rfl⟩
theorem dtAlike.symm {m n : Dt} (h : dtAlike m n) : dtAlike n m := ⟨h.1.symm, h.2.1.symm, h.2.2.1.symm, h.2.2.2.symm⟩
theorem dtAlike.trans {m n l : Dt} (h : dtAlike m n) (g : dtAlike n l) : dtAlike m l := ⟨h.1.trans g.1, h.2.1.trans g.2.1, h.2.2.1.trans g.2.2.1, h.2.2.2.trans g.2.2.2⟩



end Go.Proofs.Ytidgkkldhnckeae
