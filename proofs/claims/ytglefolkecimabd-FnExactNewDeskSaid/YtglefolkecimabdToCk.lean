/-
  The law's copy and comparison of a Clock: of one value it says so. No condition.
-/
import Derived.Test.YtglefolkecimabdChecked
import Derived.Test.YtglefolkecimabdBase
import Derived.Test.YtglefolkecimabdRowE
namespace Go.Proofs.Ytglefolkecimabd
open Go.RowKit

/-- What a Clock holds. -/
structure Ck where
  a0 : Int
  a1 : Int
  a2 : Int
instance : Inhabited Ck := ⟨⟨0, 0, 0⟩⟩
/-- Its cells. -/
def ckC (m : Ck) : Nat → Value
  | 0 => .int .i64 m.a0
  | 1 => .int .i64 m.a1
  | _ => .int .i64 m.a2
def ckAlike (m n : Ck) : Prop := m.a0 = n.a0 ∧ m.a1 = n.a1 ∧ m.a2 = n.a2
theorem ckAlike_refl (m : Ck) : ckAlike m m := ⟨rfl, rfl, rfl⟩
theorem ckAlike.symm {m n : Ck} (h : ckAlike m n) : ckAlike n m := ⟨h.1.symm, h.2.1.symm, h.2.2.symm⟩
theorem ckAlike.trans {m n l : Ck} (h : ckAlike m n) (g : ckAlike n l) : ckAlike m l := ⟨h.1.trans g.1, h.2.1.trans g.2.1, h.2.2.trans g.2.2⟩

set_option maxHeartbeats 1000000 in
theorem toClock_any (a0 : Int) (a1 : Int) (a2 : Int) (w : World) :
    Calls Try.prog 85 #[.agg #[.int .i64 a0, .int .i64 a1, .int .i64 a2]] w fun e w' => e = .returned (.agg #[.int .i64 a0, .int .i64 a1, .int .i64 a2]) ∧ Below w.heap.size w w' := by
  go_enter Try.func85, Try.ntmps85
  go_wp2
  refine bodyPost_ret (v := .agg #[.int .i64 a0, .int .i64 a1, .int .i64 a2]) (by simp [results, Try.results85, go_sem]) rfl ⟨rfl, ?_⟩
  repeat (first | exact bel3 _ _ _ | refine Below.setCell ?_ (by simp; try omega) _)

set_option maxHeartbeats 1000000 in
theorem eqClock_alike (a0 : Int) (a1 : Int) (a2 : Int) (b0 : Int) (b1 : Int) (b2 : Int) (w : World) (h : ckAlike ⟨a0, a1, a2⟩ ⟨b0, b1, b2⟩) :
    Calls Try.prog 101 #[.agg #[.int .i64 a0, .int .i64 a1, .int .i64 a2], .agg #[.int .i64 b0, .int .i64 b1, .int .i64 b2]] w fun e w' => e = .returned (.bool true) ∧ Below w.heap.size w w' := by
  obtain ⟨h0, h1, h2⟩ := h
  have h0 : a0 = b0 := h0
  subst h0
  have h1 : a1 = b1 := h1
  subst h1
  have h2 : a2 = b2 := h2
  subst h2
  go_enter Try.func101, Try.ntmps101
  go_wp2_with fail
  go_ret
  exact ⟨rfl, by simpa using bel2 _ _⟩

end Go.Proofs.Ytglefolkecimabd
