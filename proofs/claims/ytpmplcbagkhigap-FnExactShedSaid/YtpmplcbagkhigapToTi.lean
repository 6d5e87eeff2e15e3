/-
  The law's copy and comparison of a Tie: of one value it says so. No condition.
-/
import Derived.Test.YtpmplcbagkhigapChecked
import Derived.Test.YtpmplcbagkhigapBase
import Derived.Test.YtpmplcbagkhigapRowE
namespace Go.Proofs.Ytpmplcbagkhigap
open Go.RowKit

/-- What a Tie holds. -/
structure Ti where
  a0 : Int
  a1 : Int
  a2 : Bool
instance : Inhabited Ti := ⟨⟨0, 0, false⟩⟩
/-- Its cells. -/
def tiC (m : Ti) : Nat → Value
  | 0 => .int .i64 m.a0
  | 1 => .int .i64 m.a1
  | _ => .bool m.a2
def tiAlike (m n : Ti) : Prop := m.a0 = n.a0 ∧ m.a1 = n.a1 ∧ m.a2 = n.a2
theorem tiAlike_refl (m : Ti) : tiAlike m m := ⟨rfl, rfl, rfl⟩
theorem tiAlike.symm {m n : Ti} (h : tiAlike m n) : tiAlike n m := ⟨h.1.symm, h.2.1.symm, h.2.2.symm⟩
theorem tiAlike.trans {m n l : Ti} (h : tiAlike m n) (g : tiAlike n l) : tiAlike m l := ⟨h.1.trans g.1, h.2.1.trans g.2.1, h.2.2.trans g.2.2⟩

set_option maxHeartbeats 1000000 in
theorem toTie_any (a0 : Int) (a1 : Int) (a2 : Bool) (w : World) :
    Calls Try.prog 59 #[.agg #[.int .i64 a0, .int .i64 a1, .bool a2]] w fun e w' => e = .returned (.agg #[.int .i64 a0, .int .i64 a1, .bool a2]) ∧ Below w.heap.size w w' := by
  go_enter Try.func59, Try.ntmps59
  go_wp2
  refine bodyPost_ret (v := .agg #[.int .i64 a0, .int .i64 a1, .bool a2]) (by simp [results, Try.results59, go_sem]) rfl ⟨rfl, ?_⟩
  repeat (first | exact bel3 _ _ _ | refine Below.setCell ?_ (by simp; try omega) _)

set_option maxHeartbeats 1000000 in
theorem eqTie_alike (a0 : Int) (a1 : Int) (a2 : Bool) (b0 : Int) (b1 : Int) (b2 : Bool) (w : World) (h : tiAlike ⟨a0, a1, a2⟩ ⟨b0, b1, b2⟩) :
    Calls Try.prog 64 #[.agg #[.int .i64 a0, .int .i64 a1, .bool a2], .agg #[.int .i64 b0, .int .i64 b1, .bool b2]] w fun e w' => e = .returned (.bool true) ∧ Below w.heap.size w w' := by
  obtain ⟨h0, h1, h2⟩ := h
  have h0 : a0 = b0 := h0
  subst h0
  have h1 : a1 = b1 := h1
  subst h1
  have h2 : a2 = b2 := h2
  subst h2
  go_enter Try.func64, Try.ntmps64
  go_wp2_with fail
  go_ret
  exact ⟨rfl, by simpa using bel2 _ _⟩

end Go.Proofs.Ytpmplcbagkhigap
