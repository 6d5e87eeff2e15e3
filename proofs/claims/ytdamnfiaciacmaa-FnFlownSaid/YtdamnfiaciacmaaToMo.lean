/-
  The law's copy and comparison of a Motion: of one value it says so. No condition.
-/
import Derived.Test.YtdamnfiaciacmaaChecked
import Derived.Test.YtdamnfiaciacmaaSameFl
import Derived.Test.YtdamnfiaciacmaaRowE
namespace Go.Proofs.Ytdamnfiaciacmaa
open Go.RowKit
attribute [local go_sem] run_store_float

/-- What a Motion holds. -/
structure Mo where
  a0 : Nat
  a1 : Nat
  a2 : Nat
  a3 : Nat
instance : Inhabited Mo := ⟨⟨0, 0, 0, 0⟩⟩
/-- Its cells. -/
def moC (m : Mo) : Nat → Value
  | 0 => .float .f64 m.a0
  | 1 => .float .f64 m.a1
  | 2 => .float .f64 m.a2
  | _ => .float .f64 m.a3
def moAlike (m n : Mo) : Prop := Alike .f64 m.a0 n.a0 ∧ Alike .f64 m.a1 n.a1 ∧ Alike .f64 m.a2 n.a2 ∧ Alike .f64 m.a3 n.a3
theorem moAlike_refl (m : Mo) : moAlike m m := ⟨.refl _ _, .refl _ _, .refl _ _, .refl _ _⟩
theorem moAlike.symm {m n : Mo} (h : moAlike m n) : moAlike n m := ⟨h.1.symm, h.2.1.symm, h.2.2.1.symm, h.2.2.2.symm⟩
theorem moAlike.trans {m n l : Mo} (h : moAlike m n) (g : moAlike n l) : moAlike m l := ⟨h.1.trans g.1, h.2.1.trans g.2.1, h.2.2.1.trans g.2.2.1, h.2.2.2.trans g.2.2.2⟩



end Go.Proofs.Ytdamnfiaciacmaa
