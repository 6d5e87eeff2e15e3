/-
  The law's copy and comparison of a Use: of one value it says so. No condition.
-/
import Derived.Test.YtpmplcbagkhigapChecked
import Derived.Test.YtpmplcbagkhigapBase
import Derived.Test.YtpmplcbagkhigapRowE
namespace Go.Proofs.Ytpmplcbagkhigap
open Go.RowKit

/-- What a Use holds. -/
structure Us where
  a0 : Int
  a1 : Int
  a2 : Int
instance : Inhabited Us := ⟨⟨0, 0, 0⟩⟩
/-- Its cells. -/
def usC (m : Us) : Nat → Value
  | 0 => .int .i64 m.a0
  | 1 => .int .i64 m.a1
  | _ => .int .i64 m.a2
def usAlike (m n : Us) : Prop := m.a0 = n.a0 ∧ m.a1 = n.a1 ∧ m.a2 = n.a2
theorem usAlike_refl (m : Us) : usAlike m m := ⟨rfl, rfl, rfl⟩
theorem usAlike.symm {m n : Us} (h : usAlike m n) : usAlike n m := ⟨h.1.symm, h.2.1.symm, h.2.2.symm⟩
theorem usAlike.trans {m n l : Us} (h : usAlike m n) (g : usAlike n l) : usAlike m l := ⟨h.1.trans g.1, h.2.1.trans g.2.1, h.2.2.trans g.2.2⟩

set_option maxHeartbeats 1000000 in
theorem toUse_any (a0 : Int) (a1 : Int) (a2 : Int) (w : World) :
    Calls Try.prog 60 #[.agg #[.int .i64 a0, .int .i64 a1, .int .i64 a2]] w fun e w' => e = .returned (.agg #[.int .i64 a0, .int .i64 a1, .int .i64 a2]) ∧ Below w.heap.size w w' := by
  go_enter Try.func60, Try.ntmps60
  go_wp2
  refine bodyPost_ret (v := .agg #[.int .i64 a0, .int .i64 a1, .int .i64 a2]) (by simp [results, Try.results60, go_sem]) rfl ⟨rfl, ?_⟩
  repeat (first | exact bel3 _ _ _ | refine Below.setCell ?_ (by simp; try omega) _)

set_option maxHeartbeats 1000000 in
theorem eqUse_alike (a0 : Int) (a1 : Int) (a2 : Int) (b0 : Int) (b1 : Int) (b2 : Int) (w : World) (h : usAlike ⟨a0, a1, a2⟩ ⟨b0, b1, b2⟩) :
    Calls Try.prog 65 #[.agg #[.int .i64 a0, .int .i64 a1, .int .i64 a2], .agg #[.int .i64 b0, .int .i64 b1, .int .i64 b2]] w fun e w' => e = .returned (.bool true) ∧ Below w.heap.size w w' := by
  obtain ⟨h0, h1, h2⟩ := h
  have h0 : a0 = b0 := h0
  subst h0
  have h1 : a1 = b1 := h1
  subst h1
  have h2 : a2 = b2 := h2
  subst h2
  go_enter Try.func65, Try.ntmps65
  go_wp2_with fail
  go_ret
  exact ⟨rfl, by simpa using bel2 _ _⟩

end Go.Proofs.Ytpmplcbagkhigap
