/-
  The law's copy and comparison of a Own: of one value it says so. No condition.
-/
import Derived.Test.YtbaocifpifbldaxChecked
import Derived.Test.YtbaocifpifbldaxBase
import Derived.Test.YtbaocifpifbldaxRowE
namespace Go.Proofs.Ytbaocifpifbldax
open Go.RowKit

/-- What a Own holds. -/
structure Av where
  a0 : Int
  a1 : Int
  a2 : Int
  a3 : Int
instance : Inhabited Av := ⟨⟨0, 0, 0, 0⟩⟩
/-- Its cells. -/
def avC (m : Av) : Nat → Value
  | 0 => .int .i64 m.a0
  | 1 => .int .i64 m.a1
  | 2 => .int .i64 m.a2
  | _ => .int .i64 m.a3
def avAlike (m n : Av) : Prop := m.a0 = n.a0 ∧ m.a1 = n.a1 ∧ m.a2 = n.a2 ∧ m.a3 = n.a3
theorem avAlike_refl (m : Av) : avAlike m m := ⟨rfl, rfl, rfl, rfl⟩
theorem avAlike.symm {m n : Av} (h : avAlike m n) : avAlike n m := ⟨h.1.symm, h.2.1.symm, h.2.2.1.symm, h.2.2.2.symm⟩
theorem avAlike.trans {m n l : Av} (h : avAlike m n) (g : avAlike n l) : avAlike m l := ⟨h.1.trans g.1, h.2.1.trans g.2.1, h.2.2.1.trans g.2.2.1, h.2.2.2.trans g.2.2.2⟩

set_option maxHeartbeats 1000000 in
theorem toOwn_any (a0 : Int) (a1 : Int) (a2 : Int) (a3 : Int) (w : World) :
    Calls Try.prog 13 #[.agg #[.int .i64 a0, .int .i64 a1, .int .i64 a2, .int .i64 a3]] w fun e w' => e = .returned (.agg #[.int .i64 a0, .int .i64 a1, .int .i64 a2, .int .i64 a3]) ∧ Below w.heap.size w w' := by
  go_enter Try.func13, Try.ntmps13
  go_wp2
  refine bodyPost_ret (v := .agg #[.int .i64 a0, .int .i64 a1, .int .i64 a2, .int .i64 a3]) (by simp [results, Try.results13, go_sem]) rfl ⟨rfl, ?_⟩
  repeat (first | exact bel3 _ _ _ | refine Below.setCell ?_ (by simp; try omega) _)


end Go.Proofs.Ytbaocifpifbldax
