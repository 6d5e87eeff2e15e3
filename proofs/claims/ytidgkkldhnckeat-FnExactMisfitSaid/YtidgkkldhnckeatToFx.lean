/-
  The law's copy and comparison of a Fix: of one value it says so. No condition.
-/
import Derived.Test.YtidgkkldhnckeatChecked
import Derived.Test.YtidgkkldhnckeatBase
import Derived.Test.YtidgkkldhnckeatRowE
namespace Go.Proofs.Ytidgkkldhnckeat
open Go.RowKit

/-- What a Fix holds. -/
structure Fx where
  a0 : Int
  a1 : Int
  a2 : Int
instance : Inhabited Fx := ⟨⟨0, 0, 0⟩⟩
/-- Its cells. -/
def fxC (m : Fx) : Nat → Value
  | 0 => .int .i64 m.a0
  | 1 => .int .i64 m.a1
  | _ => .int .i64 m.a2
def fxAlike (m n : Fx) : Prop := m.a0 = n.a0 ∧ m.a1 = n.a1 ∧ m.a2 = n.a2
theorem fxAlike_refl (m : Fx) : fxAlike m m := ⟨rfl, rfl, rfl⟩
theorem fxAlike.symm {m n : Fx} (h : fxAlike m n) : fxAlike n m := ⟨h.1.symm, h.2.1.symm, h.2.2.symm⟩
theorem fxAlike.trans {m n l : Fx} (h : fxAlike m n) (g : fxAlike n l) : fxAlike m l := ⟨h.1.trans g.1, h.2.1.trans g.2.1, h.2.2.trans g.2.2⟩

set_option maxHeartbeats 1000000 in
theorem toFix_any (a0 : Int) (a1 : Int) (a2 : Int) (w : World) :
    Calls Try.prog 11 #[.agg #[.int .i64 a0, .int .i64 a1, .int .i64 a2]] w fun e w' => e = .returned (.agg #[.int .i64 a0, .int .i64 a1, .int .i64 a2]) ∧ Below w.heap.size w w' := by
  go_enter Try.func11, Try.ntmps11
  go_wp2
  refine bodyPost_ret (v := .agg #[.int .i64 a0, .int .i64 a1, .int .i64 a2]) (by simp [results, Try.results11, go_sem]) rfl ⟨rfl, ?_⟩
  repeat (first | exact bel3 _ _ _ | refine Below.setCell ?_ (by simp; try omega) _)

set_option maxHeartbeats 1000000 in
theorem eqFix_alike (a0 : Int) (a1 : Int) (a2 : Int) (b0 : Int) (b1 : Int) (b2 : Int) (w : World) (h : fxAlike ⟨a0, a1, a2⟩ ⟨b0, b1, b2⟩) :
    Calls Try.prog 41 #[.agg #[.int .i64 a0, .int .i64 a1, .int .i64 a2], .agg #[.int .i64 b0, .int .i64 b1, .int .i64 b2]] w fun e w' => e = .returned (.bool true) ∧ Below w.heap.size w w' := by
  obtain ⟨h0, h1, h2⟩ := h
  have h0 : a0 = b0 := h0
  subst h0
  have h1 : a1 = b1 := h1
  subst h1
  have h2 : a2 = b2 := h2
  subst h2
  go_enter Try.func41, Try.ntmps41
  go_wp2_with fail
  go_ret
  exact ⟨rfl, by simpa using bel2 _ _⟩

end Go.Proofs.Ytidgkkldhnckeat
