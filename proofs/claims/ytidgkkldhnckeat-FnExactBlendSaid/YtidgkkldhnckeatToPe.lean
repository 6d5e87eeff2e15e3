/-
  The law's copy and comparison of a Place: of one value it says so. No condition.
-/
import Derived.Test.YtidgkkldhnckeatChecked
import Derived.Test.YtidgkkldhnckeatBase
import Derived.Test.YtidgkkldhnckeatRowE
namespace Go.Proofs.Ytidgkkldhnckeat
open Go.RowKit

/-- What a Place holds. -/
structure Pe where
  a0 : Int
  a1 : Int
instance : Inhabited Pe := ⟨⟨0, 0⟩⟩
/-- Its cells. -/
def peC (m : Pe) : Nat → Value
  | 0 => .int .i64 m.a0
  | _ => .int .i64 m.a1
def peAlike (m n : Pe) : Prop := m.a0 = n.a0 ∧ m.a1 = n.a1
theorem peAlike_refl (m : Pe) : peAlike m m := ⟨rfl, rfl⟩
theorem peAlike.symm {m n : Pe} (h : peAlike m n) : peAlike n m := ⟨h.1.symm, h.2.symm⟩
theorem peAlike.trans {m n l : Pe} (h : peAlike m n) (g : peAlike n l) : peAlike m l := ⟨h.1.trans g.1, h.2.trans g.2⟩

set_option maxHeartbeats 1000000 in
theorem toPlace_any (a0 : Int) (a1 : Int) (w : World) :
    Calls Try.prog 10 #[.agg #[.int .i64 a0, .int .i64 a1]] w fun e w' => e = .returned (.agg #[.int .i64 a0, .int .i64 a1]) ∧ Below w.heap.size w w' := by
  go_enter Try.func10, Try.ntmps10
  go_wp2
  refine bodyPost_ret (v := .agg #[.int .i64 a0, .int .i64 a1]) (by simp [results, Try.results10, go_sem]) rfl ⟨rfl, ?_⟩
  repeat (first | exact bel3 _ _ _ | refine Below.setCell ?_ (by simp; try omega) _)

set_option maxHeartbeats 1000000 in
theorem eqPlace_alike (a0 : Int) (a1 : Int) (b0 : Int) (b1 : Int) (w : World) (h : peAlike ⟨a0, a1⟩ ⟨b0, b1⟩) :
    Calls Try.prog 17 #[.agg #[.int .i64 a0, .int .i64 a1], .agg #[.int .i64 b0, .int .i64 b1]] w fun e w' => e = .returned (.bool true) ∧ Below w.heap.size w w' := by
  obtain ⟨h0, h1⟩ := h
  have h0 : a0 = b0 := h0
  subst h0
  have h1 : a1 = b1 := h1
  subst h1
  go_enter Try.func17, Try.ntmps17
  go_wp2_with fail
  go_ret
  exact ⟨rfl, by simpa using bel2 _ _⟩

end Go.Proofs.Ytidgkkldhnckeat
