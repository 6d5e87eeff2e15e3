/-
  The law's copy and comparison of a Forces: of one value it says so. No condition.
-/
import Derived.Test.YtgihdklgmndeeamChecked
import Derived.Test.YtgihdklgmndeeamSameFl
import Derived.Test.YtgihdklgmndeeamRowE
namespace Go.Proofs.Ytgihdklgmndeeam
open Go.RowKit
attribute [local go_sem] run_store_float

/-- What a Forces holds. -/
structure Fo where
  a0 : Nat
  a1 : Nat
  a2 : Nat
  a3 : Nat
  a4 : Nat
instance : Inhabited Fo := ⟨⟨0, 0, 0, 0, 0⟩⟩
/-- Its cells. -/
def foC (m : Fo) : Nat → Value
  | 0 => .float .f64 m.a0
  | 1 => .float .f64 m.a1
  | 2 => .float .f64 m.a2
  | 3 => .float .f64 m.a3
  | _ => .float .f64 m.a4
def foAlike (m n : Fo) : Prop := Alike .f64 m.a0 n.a0 ∧ Alike .f64 m.a1 n.a1 ∧ Alike .f64 m.a2 n.a2 ∧ Alike .f64 m.a3 n.a3 ∧ Alike .f64 m.a4 n.a4
theorem foAlike_refl (m : Fo) : foAlike m m := ⟨.refl _ _, .refl _ _, .refl _ _, .refl _ _, .refl _ _⟩
theorem foAlike.symm {m n : Fo} (h : foAlike m n) : foAlike n m := ⟨h.1.symm, h.2.1.symm, h.2.2.1.symm, h.2.2.2.1.symm, h.2.2.2.2.symm⟩
theorem foAlike.trans {m n l : Fo} (h : foAlike m n) (g : foAlike n l) : foAlike m l := ⟨h.1.trans g.1, h.2.1.trans g.2.1, h.2.2.1.trans g.2.2.1, h.2.2.2.1.trans g.2.2.2.1, h.2.2.2.2.trans g.2.2.2.2⟩

set_option maxHeartbeats 1000000 in
theorem toForces_any (a0 : Nat) (a1 : Nat) (a2 : Nat) (a3 : Nat) (a4 : Nat) (w : World) :
    Calls Try.prog 31 #[.agg #[.float .f64 a0, .float .f64 a1, .float .f64 a2, .float .f64 a3, .float .f64 a4]] w fun e w' => e = .returned (.agg #[.float .f64 a0, .float .f64 a1, .float .f64 a2, .float .f64 a3, .float .f64 a4]) ∧ Below w.heap.size w w' := by
  go_enter Try.func31, Try.ntmps31
  go_wp2
  refine bodyPost_ret (v := .agg #[.float .f64 a0, .float .f64 a1, .float .f64 a2, .float .f64 a3, .float .f64 a4]) (by simp [results, Try.results31, go_sem]) rfl ⟨rfl, ?_⟩
  repeat (first | exact bel3 _ _ _ | refine Below.setCell ?_ (by simp; try omega) _)


end Go.Proofs.Ytgihdklgmndeeam
