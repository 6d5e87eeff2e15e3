/-
  The law's copy and comparison of a Leg: of one value it says so. No condition.
-/
import Derived.Test.YtglefolkecimabdChecked
import Derived.Test.YtglefolkecimabdBase
import Derived.Test.YtglefolkecimabdRowE
namespace Go.Proofs.Ytglefolkecimabd
open Go.RowKit

/-- What a Leg holds. -/
structure Lg where
  a0 : Int
  a1 : Int
  a2 : Int
  a3 : Int
instance : Inhabited Lg := ⟨⟨0, 0, 0, 0⟩⟩
/-- Its cells. -/
def lgC (m : Lg) : Nat → Value
  | 0 => .int .i64 m.a0
  | 1 => .int .i64 m.a1
  | 2 => .int .i64 m.a2
  | _ => .int .i64 m.a3
def lgAlike (m n : Lg) : Prop := m.a0 = n.a0 ∧ m.a1 = n.a1 ∧ m.a2 = n.a2 ∧ m.a3 = n.a3
theorem lgAlike_refl (m : Lg) : lgAlike m m := ⟨rfl, rfl, rfl, rfl⟩
theorem lgAlike.symm {m n : Lg} (h : lgAlike m n) : lgAlike n m := ⟨h.1.symm, h.2.1.symm, h.2.2.1.symm, h.2.2.2.symm⟩
theorem lgAlike.trans {m n l : Lg} (h : lgAlike m n) (g : lgAlike n l) : lgAlike m l := ⟨h.1.trans g.1, h.2.1.trans g.2.1, h.2.2.1.trans g.2.2.1, h.2.2.2.trans g.2.2.2⟩

set_option maxHeartbeats 1000000 in
theorem toLeg_any (a0 : Int) (a1 : Int) (a2 : Int) (a3 : Int) (w : World) :
    Calls Try.prog 81 #[.agg #[.int .i64 a0, .int .i64 a1, .int .i64 a2, .int .i64 a3]] w fun e w' => e = .returned (.agg #[.int .i64 a0, .int .i64 a1, .int .i64 a2, .int .i64 a3]) ∧ Below w.heap.size w w' := by
  go_enter Try.func81, Try.ntmps81
  go_wp2
  refine bodyPost_ret (v := .agg #[.int .i64 a0, .int .i64 a1, .int .i64 a2, .int .i64 a3]) (by simp [results, Try.results81, go_sem]) rfl ⟨rfl, ?_⟩
  repeat (first | exact bel3 _ _ _ | refine Below.setCell ?_ (by simp; try omega) _)

set_option maxHeartbeats 1000000 in
theorem eqLeg_alike (a0 : Int) (a1 : Int) (a2 : Int) (a3 : Int) (b0 : Int) (b1 : Int) (b2 : Int) (b3 : Int) (w : World) (h : lgAlike ⟨a0, a1, a2, a3⟩ ⟨b0, b1, b2, b3⟩) :
    Calls Try.prog 97 #[.agg #[.int .i64 a0, .int .i64 a1, .int .i64 a2, .int .i64 a3], .agg #[.int .i64 b0, .int .i64 b1, .int .i64 b2, .int .i64 b3]] w fun e w' => e = .returned (.bool true) ∧ Below w.heap.size w w' := by
  obtain ⟨h0, h1, h2, h3⟩ := h
  have h0 : a0 = b0 := h0
  subst h0
  have h1 : a1 = b1 := h1
  subst h1
  have h2 : a2 = b2 := h2
  subst h2
  have h3 : a3 = b3 := h3
  subst h3
  go_enter Try.func97, Try.ntmps97
  go_wp2_with fail
  go_ret
  exact ⟨rfl, by simpa using bel2 _ _⟩

end Go.Proofs.Ytglefolkecimabd
