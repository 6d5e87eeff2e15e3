/-
  The law's copy and comparison of a Craft: of one value it says so. No condition.
-/
import Derived.Test.YtkpmoolggpojdauChecked
import Derived.Test.YtkpmoolggpojdauBase
import Derived.Test.YtkpmoolggpojdauRowE
namespace Go.Proofs.Ytkpmoolggpojdau
open Go.RowKit

/-- What a Craft holds. -/
structure Cf where
  a0 : Int
  a1 : Int
  a2 : Int
  a3 : Int
  a4 : Int
instance : Inhabited Cf := ⟨⟨0, 0, 0, 0, 0⟩⟩
/-- Its cells. -/
def cfC (m : Cf) : Nat → Value
  | 0 => .int .i64 m.a0
  | 1 => .int .i64 m.a1
  | 2 => .int .i64 m.a2
  | 3 => .int .i64 m.a3
  | _ => .int .i64 m.a4
def cfAlike (m n : Cf) : Prop := m.a0 = n.a0 ∧ m.a1 = n.a1 ∧ m.a2 = n.a2 ∧ m.a3 = n.a3 ∧ m.a4 = n.a4
theorem cfAlike_refl (m : Cf) : cfAlike m m := ⟨rfl, rfl, rfl, rfl, rfl⟩
theorem cfAlike.symm {m n : Cf} (h : cfAlike m n) : cfAlike n m := ⟨h.1.symm, h.2.1.symm, h.2.2.1.symm, h.2.2.2.1.symm, h.2.2.2.2.symm⟩
theorem cfAlike.trans {m n l : Cf} (h : cfAlike m n) (g : cfAlike n l) : cfAlike m l := ⟨h.1.trans g.1, h.2.1.trans g.2.1, h.2.2.1.trans g.2.2.1, h.2.2.2.1.trans g.2.2.2.1, h.2.2.2.2.trans g.2.2.2.2⟩

set_option maxHeartbeats 1000000 in
theorem toCraft_any (a0 : Int) (a1 : Int) (a2 : Int) (a3 : Int) (a4 : Int) (w : World) :
    Calls Try.prog 10 #[.agg #[.int .i64 a0, .int .i64 a1, .int .i64 a2, .int .i64 a3, .int .i64 a4]] w fun e w' => e = .returned (.agg #[.int .i64 a0, .int .i64 a1, .int .i64 a2, .int .i64 a3, .int .i64 a4]) ∧ Below w.heap.size w w' := by
  go_enter Try.func10, Try.ntmps10
  go_wp2
  refine bodyPost_ret (v := .agg #[.int .i64 a0, .int .i64 a1, .int .i64 a2, .int .i64 a3, .int .i64 a4]) (by simp [results, Try.results10, go_sem]) rfl ⟨rfl, ?_⟩
  repeat (first | exact bel3 _ _ _ | refine Below.setCell ?_ (by simp; try omega) _)


end Go.Proofs.Ytkpmoolggpojdau
