/-
  The law's copy and comparison of a Pilot: of one value it says so. No condition.
-/
import Derived.Test.YtfahhjgpgccdhadChecked
import Derived.Test.YtfahhjgpgccdhadBase
import Derived.Test.YtfahhjgpgccdhadRowE
namespace Go.Proofs.Ytfahhjgpgccdhad
open Go.RowKit

/-- What a Pilot holds. -/
structure Pl where
  a0 : Int
  a1 : Int
  a2 : Int
  a3 : Int
  a4 : Int
  a5 : Int
  a6 : Int
  a7 : Int
  a8 : Bool
instance : Inhabited Pl := ⟨⟨0, 0, 0, 0, 0, 0, 0, 0, false⟩⟩
/-- Its cells. -/
def plC (m : Pl) : Nat → Value
  | 0 => .int .i64 m.a0
  | 1 => .int .i64 m.a1
  | 2 => .int .i64 m.a2
  | 3 => .int .i64 m.a3
  | 4 => .int .i64 m.a4
  | 5 => .int .i64 m.a5
  | 6 => .int .i64 m.a6
  | 7 => .int .i64 m.a7
  | _ => .bool m.a8
def plAlike (m n : Pl) : Prop := m.a0 = n.a0 ∧ m.a1 = n.a1 ∧ m.a2 = n.a2 ∧ m.a3 = n.a3 ∧ m.a4 = n.a4 ∧ m.a5 = n.a5 ∧ m.a6 = n.a6 ∧ m.a7 = n.a7 ∧ m.a8 = n.a8
theorem plAlike_refl (m : Pl) : plAlike m m := ⟨rfl, rfl, rfl, rfl, rfl, rfl, rfl, rfl, rfl⟩
theorem plAlike.symm {m n : Pl} (h : plAlike m n) : plAlike n m := ⟨h.1.symm, h.2.1.symm, h.2.2.1.symm, h.2.2.2.1.symm, h.2.2.2.2.1.symm, h.2.2.2.2.2.1.symm, h.2.2.2.2.2.2.1.symm, h.2.2.2.2.2.2.2.1.symm, h.2.2.2.2.2.2.2.2.symm⟩
theorem plAlike.trans {m n l : Pl} (h : plAlike m n) (g : plAlike n l) : plAlike m l := ⟨h.1.trans g.1, h.2.1.trans g.2.1, h.2.2.1.trans g.2.2.1, h.2.2.2.1.trans g.2.2.2.1, h.2.2.2.2.1.trans g.2.2.2.2.1, h.2.2.2.2.2.1.trans g.2.2.2.2.2.1, h.2.2.2.2.2.2.1.trans g.2.2.2.2.2.2.1, h.2.2.2.2.2.2.2.1.trans g.2.2.2.2.2.2.2.1, h.2.2.2.2.2.2.2.2.trans g.2.2.2.2.2.2.2.2⟩



end Go.Proofs.Ytfahhjgpgccdhad
