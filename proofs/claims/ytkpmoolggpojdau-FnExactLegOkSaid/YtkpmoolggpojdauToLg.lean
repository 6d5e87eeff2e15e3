/-
  The law's copy and comparison of a Leg: of one value it says so. No condition.
-/
import Derived.Test.YtkpmoolggpojdauChecked
import Derived.Test.YtkpmoolggpojdauBase
import Derived.Test.YtkpmoolggpojdauRowE
namespace Go.Proofs.Ytkpmoolggpojdau
open Go.RowKit

/-- What a Leg holds. -/
structure Lg where
  a0 : Int
  a1 : Int
  a2 : Int
  a3 : Int
instance : Inhabited Lg := ⟨⟨0, 0, 0, 0⟩⟩
/-- Its cells. -/
def lgC (m : Lg) : Nat → Value
  | 0 => .int .i64 m.a0
  | 1 => .int .i64 m.a1
  | 2 => .int .i64 m.a2
  | _ => .int .i64 m.a3
def lgAlike (m n : Lg) : Prop := m.a0 = n.a0 ∧ m.a1 = n.a1 ∧ m.a2 = n.a2 ∧ m.a3 = n.a3
theorem lgAlike_refl (m : Lg) : lgAlike m m := ⟨rfl, rfl, rfl, rfl⟩
theorem lgAlike.symm {m n : Lg} (h : lgAlike m n) : lgAlike n m := ⟨h.1.symm, h.2.1.symm, h.2.2.1.symm, h.2.2.2.symm⟩
theorem lgAlike.trans {m n l : Lg} (h : lgAlike m n) (g : lgAlike n l) : lgAlike m l := ⟨h.1.trans g.1, h.2.1.trans g.2.1, h.2.2.1.trans g.2.2.1, h.2.2.2.trans g.2.2.2⟩

set_option maxHeartbeats 1000000 in
theorem toLeg_any (a0 : Int) (a1 : Int) (a2 : Int) (a3 : Int) (w : World) :
    Calls Try.prog 7 #[.agg #[.int .i64 a0, .int .i64 a1, .int .i64 a2, .int .i64 a3]] w fun e w' => e = .returned (.agg #[.int .i64 a0, .int .i64 a1, .int .i64 a2, .int .i64 a3]) ∧ Below w.heap.size w w' := by
  go_enter Try.func7, Try.ntmps7
  go_wp2
  refine bodyPost_ret (v := .agg #[.int .i64 a0, .int .i64 a1, .int .i64 a2, .int .i64 a3]) (by simp [results, Try.results7, go_sem]) rfl ⟨rfl, ?_⟩
  repeat (first | exact bel3 _ _ _ | refine Below.setCell ?_ (by simp; try omega) _)


end Go.Proofs.Ytkpmoolggpojdau
