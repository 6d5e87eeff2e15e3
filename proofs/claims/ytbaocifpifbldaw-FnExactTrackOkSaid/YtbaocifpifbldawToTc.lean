/-
  The law's copy and comparison of a Track: of one value it says so. No condition.
-/
import Derived.Test.YtbaocifpifbldawChecked
import Derived.Test.YtbaocifpifbldawBase
import Derived.Test.YtbaocifpifbldawRowE
namespace Go.Proofs.Ytbaocifpifbldaw
open Go.RowKit

/-- What a Track holds. -/
structure Tc where
  a0 : Int
  a1 : Int
  a2 : Int
  a3 : Int
  a4 : Int
  a5 : Int
instance : Inhabited Tc := ⟨⟨0, 0, 0, 0, 0, 0⟩⟩
/-- Its cells. -/
def tcC (m : Tc) : Nat → Value
  | 0 => .int .i64 m.a0
  | 1 => .int .i64 m.a1
  | 2 => .int .i64 m.a2
  | 3 => .int .i64 m.a3
  | 4 => .int .i64 m.a4
  | _ => .int .i64 m.a5
def tcAlike (m n : Tc) : Prop := m.a0 = n.a0 ∧ m.a1 = n.a1 ∧ m.a2 = n.a2 ∧ m.a3 = n.a3 ∧ m.a4 = n.a4 ∧ m.a5 = n.a5
theorem tcAlike_refl (m : Tc) : tcAlike m m := ⟨rfl, rfl, rfl, rfl, rfl, rfl⟩
theorem tcAlike.symm {m n : Tc} (h : tcAlike m n) : tcAlike n m := ⟨h.1.symm, h.2.1.symm, h.2.2.1.symm, h.2.2.2.1.symm, h.2.2.2.2.1.symm, h.2.2.2.2.2.symm⟩
theorem tcAlike.trans {m n l : Tc} (h : tcAlike m n) (g : tcAlike n l) : tcAlike m l := ⟨h.1.trans g.1, h.2.1.trans g.2.1, h.2.2.1.trans g.2.2.1, h.2.2.2.1.trans g.2.2.2.1, h.2.2.2.2.1.trans g.2.2.2.2.1, h.2.2.2.2.2.trans g.2.2.2.2.2⟩

set_option maxHeartbeats 1000000 in
theorem toTrack_any (a0 : Int) (a1 : Int) (a2 : Int) (a3 : Int) (a4 : Int) (a5 : Int) (w : World) :
    Calls Try.prog 29 #[.agg #[.int .i64 a0, .int .i64 a1, .int .i64 a2, .int .i64 a3, .int .i64 a4, .int .i64 a5]] w fun e w' => e = .returned (.agg #[.int .i64 a0, .int .i64 a1, .int .i64 a2, .int .i64 a3, .int .i64 a4, .int .i64 a5]) ∧ Below w.heap.size w w' := by
  go_enter Try.func29, Try.ntmps29
  go_wp2
  refine bodyPost_ret (v := .agg #[.int .i64 a0, .int .i64 a1, .int .i64 a2, .int .i64 a3, .int .i64 a4, .int .i64 a5]) (by simp [results, Try.results29, go_sem]) rfl ⟨rfl, ?_⟩
  repeat (first | exact bel3 _ _ _ | refine Below.setCell ?_ (by simp; try omega) _)


end Go.Proofs.Ytbaocifpifbldaw
