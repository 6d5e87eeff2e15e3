/-
  The law's copy and comparison of a Source: of one value it says so. No condition.
-/
import Derived.Test.YtpmplcbagkhigapChecked
import Derived.Test.YtpmplcbagkhigapBase
import Derived.Test.YtpmplcbagkhigapRowE
namespace Go.Proofs.Ytpmplcbagkhigap
open Go.RowKit

/-- What a Source holds. -/
structure Sr where
  a0 : Int
  a1 : Int
  a2 : Bool
instance : Inhabited Sr := ⟨⟨0, 0, false⟩⟩
/-- Its cells. -/
def srC (m : Sr) : Nat → Value
  | 0 => .int .i64 m.a0
  | 1 => .int .i64 m.a1
  | _ => .bool m.a2
def srAlike (m n : Sr) : Prop := m.a0 = n.a0 ∧ m.a1 = n.a1 ∧ m.a2 = n.a2
theorem srAlike_refl (m : Sr) : srAlike m m := ⟨rfl, rfl, rfl⟩
theorem srAlike.symm {m n : Sr} (h : srAlike m n) : srAlike n m := ⟨h.1.symm, h.2.1.symm, h.2.2.symm⟩
theorem srAlike.trans {m n l : Sr} (h : srAlike m n) (g : srAlike n l) : srAlike m l := ⟨h.1.trans g.1, h.2.1.trans g.2.1, h.2.2.trans g.2.2⟩

set_option maxHeartbeats 1000000 in
theorem toSource_any (a0 : Int) (a1 : Int) (a2 : Bool) (w : World) :
    Calls Try.prog 58 #[.agg #[.int .i64 a0, .int .i64 a1, .bool a2]] w fun e w' => e = .returned (.agg #[.int .i64 a0, .int .i64 a1, .bool a2]) ∧ Below w.heap.size w w' := by
  go_enter Try.func58, Try.ntmps58
  go_wp2
  refine bodyPost_ret (v := .agg #[.int .i64 a0, .int .i64 a1, .bool a2]) (by simp [results, Try.results58, go_sem]) rfl ⟨rfl, ?_⟩
  repeat (first | exact bel3 _ _ _ | refine Below.setCell ?_ (by simp; try omega) _)

set_option maxHeartbeats 1000000 in
theorem eqSource_alike (a0 : Int) (a1 : Int) (a2 : Bool) (b0 : Int) (b1 : Int) (b2 : Bool) (w : World) (h : srAlike ⟨a0, a1, a2⟩ ⟨b0, b1, b2⟩) :
    Calls Try.prog 63 #[.agg #[.int .i64 a0, .int .i64 a1, .bool a2], .agg #[.int .i64 b0, .int .i64 b1, .bool b2]] w fun e w' => e = .returned (.bool true) ∧ Below w.heap.size w w' := by
  obtain ⟨h0, h1, h2⟩ := h
  have h0 : a0 = b0 := h0
  subst h0
  have h1 : a1 = b1 := h1
  subst h1
  have h2 : a2 = b2 := h2
  subst h2
  go_enter Try.func63, Try.ntmps63
  go_wp2_with fail
  go_ret
  exact ⟨rfl, by simpa using bel2 _ _⟩

end Go.Proofs.Ytpmplcbagkhigap
