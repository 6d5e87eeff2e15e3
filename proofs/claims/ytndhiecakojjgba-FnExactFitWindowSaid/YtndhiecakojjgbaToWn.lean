/-
  The law's copy and comparison of a Window: of one value it says so. No condition.
-/
import Derived.Test.YtndhiecakojjgbaChecked
import Derived.Test.YtndhiecakojjgbaBase
import Derived.Test.YtndhiecakojjgbaRowE
namespace Go.Proofs.Ytndhiecakojjgba
open Go.RowKit

/-- What a Window holds. -/
structure Wn where
  a0 : Int
  a1 : Int
  a2 : Int
instance : Inhabited Wn := ⟨⟨0, 0, 0⟩⟩
/-- Its cells. -/
def wnC (m : Wn) : Nat → Value
  | 0 => .int .i64 m.a0
  | 1 => .int .i64 m.a1
  | _ => .int .i64 m.a2
def wnAlike (m n : Wn) : Prop := m.a0 = n.a0 ∧ m.a1 = n.a1 ∧ m.a2 = n.a2
theorem wnAlike_refl (m : Wn) : wnAlike m m := ⟨rfl, rfl, rfl⟩
theorem wnAlike.symm {m n : Wn} (h : wnAlike m n) : wnAlike n m := ⟨h.1.symm, h.2.1.symm, h.2.2.symm⟩
theorem wnAlike.trans {m n l : Wn} (h : wnAlike m n) (g : wnAlike n l) : wnAlike m l := ⟨h.1.trans g.1, h.2.1.trans g.2.1, h.2.2.trans g.2.2⟩

set_option maxHeartbeats 1000000 in
theorem toWindow_any (a0 : Int) (a1 : Int) (a2 : Int) (w : World) :
    Calls Try.prog 24 #[.agg #[.int .i64 a0, .int .i64 a1, .int .i64 a2]] w fun e w' => e = .returned (.agg #[.int .i64 a0, .int .i64 a1, .int .i64 a2]) ∧ Below w.heap.size w w' := by
  go_enter Try.func24, Try.ntmps24
  go_wp2
  refine bodyPost_ret (v := .agg #[.int .i64 a0, .int .i64 a1, .int .i64 a2]) (by simp [results, Try.results24, go_sem]) rfl ⟨rfl, ?_⟩
  repeat (first | exact bel3 _ _ _ | refine Below.setCell ?_ (by simp; try omega) _)

set_option maxHeartbeats 1000000 in
theorem eqWindow_alike (a0 : Int) (a1 : Int) (a2 : Int) (b0 : Int) (b1 : Int) (b2 : Int) (w : World) (h : wnAlike ⟨a0, a1, a2⟩ ⟨b0, b1, b2⟩) :
    Calls Try.prog 30 #[.agg #[.int .i64 a0, .int .i64 a1, .int .i64 a2], .agg #[.int .i64 b0, .int .i64 b1, .int .i64 b2]] w fun e w' => e = .returned (.bool true) ∧ Below w.heap.size w w' := by
  obtain ⟨h0, h1, h2⟩ := h
  have h0 : a0 = b0 := h0
  subst h0
  have h1 : a1 = b1 := h1
  subst h1
  have h2 : a2 = b2 := h2
  subst h2
  go_enter Try.func30, Try.ntmps30
  go_wp2_with fail
  go_ret
  exact ⟨rfl, by simpa using bel2 _ _⟩

end Go.Proofs.Ytndhiecakojjgba
