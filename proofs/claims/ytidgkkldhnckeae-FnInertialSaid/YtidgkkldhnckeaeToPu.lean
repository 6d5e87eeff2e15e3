/-
  The law's copy and comparison of a Push: of one value it says so. No condition.
-/
import Derived.Test.YtidgkkldhnckeaeChecked
import Derived.Test.YtidgkkldhnckeaeBase
import Derived.Test.YtidgkkldhnckeaeRowE
namespace Go.Proofs.Ytidgkkldhnckeae
open Go.RowKit

/-- What a Push holds. -/
structure Pu where
  a0 : Int
  a1 : Int
instance : Inhabited Pu := ⟨⟨0, 0⟩⟩
/-- Its cells. -/
def puC (m : Pu) : Nat → Value
  | 0 => .int .i64 m.a0
  | _ => .int .i64 m.a1
def puAlike (m n : Pu) : Prop := m.a0 = n.a0 ∧ m.a1 = n.a1
theorem puAlike_refl (m : Pu) : puAlike m m := ⟨rfl, rfl⟩
theorem puAlike.symm {m n : Pu} (h : puAlike m n) : puAlike n m := ⟨h.1.symm, h.2.symm⟩
theorem puAlike.trans {m n l : Pu} (h : puAlike m n) (g : puAlike n l) : puAlike m l := ⟨h.1.trans g.1, h.2.trans g.2⟩



end Go.Proofs.Ytidgkkldhnckeae
