/-
  The law's copy and comparison of a Point: of one value it says so. No condition.
-/
import Derived.Test.YtbaocifpifbldavChecked
import Derived.Test.YtbaocifpifbldavBase
import Derived.Test.YtbaocifpifbldavRowE
namespace Go.Proofs.Ytbaocifpifbldav
open Go.RowKit

/-- What a Point holds. -/
structure Po where
  a0 : Int
  a1 : Int
  a2 : Int
instance : Inhabited Po := ⟨⟨0, 0, 0⟩⟩
/-- Its cells. -/
def poC (m : Po) : Nat → Value
  | 0 => .int .i64 m.a0
  | 1 => .int .i64 m.a1
  | _ => .int .i64 m.a2
def poAlike (m n : Po) : Prop := m.a0 = n.a0 ∧ m.a1 = n.a1 ∧ m.a2 = n.a2
theorem poAlike_refl (m : Po) : poAlike m m := ⟨rfl, rfl, rfl⟩
theorem poAlike.symm {m n : Po} (h : poAlike m n) : poAlike n m := ⟨h.1.symm, h.2.1.symm, h.2.2.symm⟩
theorem poAlike.trans {m n l : Po} (h : poAlike m n) (g : poAlike n l) : poAlike m l := ⟨h.1.trans g.1, h.2.1.trans g.2.1, h.2.2.trans g.2.2⟩

set_option maxHeartbeats 1000000 in
theorem toPoint_any (a0 : Int) (a1 : Int) (a2 : Int) (w : World) :
    Calls Try.prog 33 #[.agg #[.int .i64 a0, .int .i64 a1, .int .i64 a2]] w fun e w' => e = .returned (.agg #[.int .i64 a0, .int .i64 a1, .int .i64 a2]) ∧ Below w.heap.size w w' := by
  go_enter Try.func33, Try.ntmps33
  go_wp2
  refine bodyPost_ret (v := .agg #[.int .i64 a0, .int .i64 a1, .int .i64 a2]) (by simp [results, Try.results33, go_sem]) rfl ⟨rfl, ?_⟩
  repeat (first | exact bel3 _ _ _ | refine Below.setCell ?_ (by simp; try omega) _)

set_option maxHeartbeats 1000000 in
theorem eqPoint_alike (a0 : Int) (a1 : Int) (a2 : Int) (b0 : Int) (b1 : Int) (b2 : Int) (w : World) (h : poAlike ⟨a0, a1, a2⟩ ⟨b0, b1, b2⟩) :
    Calls Try.prog 36 #[.agg #[.int .i64 a0, .int .i64 a1, .int .i64 a2], .agg #[.int .i64 b0, .int .i64 b1, .int .i64 b2]] w fun e w' => e = .returned (.bool true) ∧ Below w.heap.size w w' := by
  obtain ⟨h0, h1, h2⟩ := h
  have h0 : a0 = b0 := h0
  subst h0
  have h1 : a1 = b1 := h1
  subst h1
  have h2 : a2 = b2 := h2
  subst h2
  go_enter Try.func36, Try.ntmps36
  go_wp2_with fail
  go_ret
  exact ⟨rfl, by simpa using bel2 _ _⟩

end Go.Proofs.Ytbaocifpifbldav
