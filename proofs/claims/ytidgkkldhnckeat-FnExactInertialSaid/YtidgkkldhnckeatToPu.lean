/-
  The law's copy and comparison of a Push: of one value it says so. No condition.
-/
import Derived.Test.YtidgkkldhnckeatChecked
import Derived.Test.YtidgkkldhnckeatBase
import Derived.Test.YtidgkkldhnckeatRowE
namespace Go.Proofs.Ytidgkkldhnckeat
open Go.RowKit

/-- What a Push holds. -/
structure Pu where
  a0 : Int
  a1 : Int
instance : Inhabited Pu := ⟨⟨0, 0⟩⟩
/-- Its cells. -/
def puC (m : Pu) : Nat → Value
  | 0 => .int .i64 m.a0
  | _ => .int .i64 m.a1
def puAlike (m n : Pu) : Prop := m.a0 = n.a0 ∧ m.a1 = n.a1
theorem puAlike_refl (m : Pu) : puAlike m m := ⟨rfl, rfl⟩
theorem puAlike.symm {m n : Pu} (h : puAlike m n) : puAlike n m := ⟨h.1.symm, h.2.symm⟩
theorem puAlike.trans {m n l : Pu} (h : puAlike m n) (g : puAlike n l) : puAlike m l := ⟨h.1.trans g.1, h.2.trans g.2⟩

set_option maxHeartbeats 1000000 in
theorem toPush_any (a0 : Int) (a1 : Int) (w : World) :
    Calls Try.prog 45 #[.agg #[.int .i64 a0, .int .i64 a1]] w fun e w' => e = .returned (.agg #[.int .i64 a0, .int .i64 a1]) ∧ Below w.heap.size w w' := by
  go_enter Try.func45, Try.ntmps45
  go_wp2
  refine bodyPost_ret (v := .agg #[.int .i64 a0, .int .i64 a1]) (by simp [results, Try.results45, go_sem]) rfl ⟨rfl, ?_⟩
  repeat (first | exact bel3 _ _ _ | refine Below.setCell ?_ (by simp; try omega) _)

set_option maxHeartbeats 1000000 in
theorem eqPush_alike (a0 : Int) (a1 : Int) (b0 : Int) (b1 : Int) (w : World) (h : puAlike ⟨a0, a1⟩ ⟨b0, b1⟩) :
    Calls Try.prog 49 #[.agg #[.int .i64 a0, .int .i64 a1], .agg #[.int .i64 b0, .int .i64 b1]] w fun e w' => e = .returned (.bool true) ∧ Below w.heap.size w w' := by
  obtain ⟨h0, h1⟩ := h
  have h0 : a0 = b0 := h0
  subst h0
  have h1 : a1 = b1 := h1
  subst h1
  go_enter Try.func49, Try.ntmps49
  go_wp2_with fail
  go_ret
  exact ⟨rfl, by simpa using bel2 _ _⟩

end Go.Proofs.Ytidgkkldhnckeat
