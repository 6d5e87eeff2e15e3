/-
  The law's copy and comparison of a Forces: of one value it says so. No condition.
-/
import Derived.Test.YtdamnfiaciacmaaChecked
import Derived.Test.YtdamnfiaciacmaaSameFl
import Derived.Test.YtdamnfiaciacmaaRowE
namespace Go.Proofs.Ytdamnfiaciacmaa
open Go.RowKit
attribute [local go_sem] run_store_float

/-- What a Forces holds. -/
structure Fo where
  a0 : Nat
  a1 : Nat
  a2 : Nat
  a3 : Nat
  a4 : Nat
instance : Inhabited Fo := ⟨⟨0, 0, 0, 0, 0⟩⟩
/-- Its cells. -/
def foC (m : Fo) : Nat → Value
  | 0 => .float .f64 m.a0
  | 1 => .float .f64 m.a1
  | 2 => .float .f64 m.a2
  | 3 => .float .f64 m.a3
  | _ => .float .f64 m.a4
def foAlike (m n : Fo) : Prop := Alike .f64 m.a0 n.a0 ∧ Alike .f64 m.a1 n.a1 ∧ Alike .f64 m.a2 n.a2 ∧ Alike .f64 m.a3 n.a3 ∧ Alike .f64 m.a4 n.a4
theorem foAlike_refl (m : Fo) : foAlike m m := ⟨.refl _ _, .refl _ _, .refl _ _, .refl _ _, .refl _ _⟩
theorem foAlike.symm {m n : Fo} (h : foAlike m n) : foAlike n m := ⟨h.1.symm, h.2.1.symm, h.2.2.1.symm, h.2.2.2.1.symm, h.2.2.2.2.symm⟩
theorem foAlike.trans {m n l : Fo} (h : foAlike m n) (g : foAlike n l) : foAlike m l := ⟨h.1.trans g.1, h.2.1.trans g.2.1, h.2.2.1.trans g.2.2.1, h.2.2.2.1.trans g.2.2.2.1, h.2.2.2.2.trans g.2.2.2.2⟩



end Go.Proofs.Ytdamnfiaciacmaa
