/-
  The law FnExactDescent returns true at every argument and writes nothing that was there: the walk. No condition.
-/
import Derived.Test.YtnglmlengohnnavPfSpec
import Derived.Test.YtnglmlengohnnavPfImpl
import Derived.Test.YtnglmlengohnnavOnly
import Derived.Deep.RegionHeld3
namespace Go.Proofs.Ytnglmlengohnnav
open Go.RowKit
set_option maxRecDepth 20000 in
set_option maxHeartbeats 8000000 in
theorem lawDescent (a : Int) (s : Int) (f : Int) (w : World)   :
    Calls Try.prog 7 #[.int .i64 a, .int .i64 s, .int .i64 f] w fun x w' => x = .returned (.bool true) ∧ Below w.heap.size w w' := by
  have hq : (dsR a s f != dsR a s f) = false := by simp
  have hq2 : (dsB a s f != dsB a s f) = false := by simp
  go_enter Try.func7, Try.ntmps7
  go_wp2_with fail
  have K : Hid (Below w.heap.size w w) := hide (Below.refl _ _)
  have KEPT : Hid (∀ W u3, (Below w.heap.size w W) → Below W.heap.size W u3 → (Below w.heap.size w u3)) := hide (fun W u3 h b => h.trans (b.mono h.size))
  refine (specDescent_any _ _ _ _  ).mono ?_
  rintro x w1 ⟨rfl, b⟩
  have S0 : Hid (w.heap.size ≤ w1.heap.size) := hide b.size
  have K : Hid (Below w.heap.size w w1) := hide ((unhide KEPT) _ _ (unhide K) b)
  clear b
  go_wp2_with fail
  refine (implDescent_any _ _ _ _  ).mono ?_
  rintro x w2 ⟨rfl, b⟩
  have S1 : Hid (w1.heap.size ≤ w2.heap.size) := hide b.size
  have K : Hid (Below w.heap.size w w2) := hide ((unhide KEPT) _ _ (unhide K) b)
  clear b
  go_wp2_with fail
  go_ret
  exact ⟨rfl, (unhide K)⟩
end Go.Proofs.Ytnglmlengohnnav
