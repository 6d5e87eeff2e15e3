/-
  What the specification's functions on complex numbers answer. No condition; nothing that was there is written.
-/
import Derived.Test.YtomcbbpaajpeiaaChecked
import Derived.Test.YtomcbbpaajpeiaaFlWalk
import Derived.Test.YtomcbbpaajpeiaaMCxPure
namespace Go.Proofs.Ytomcbbpaajpeiaa
open Go.RowKit
attribute [local go_sem] run_store_float run_store_complex

set_option maxHeartbeats 1000000 in
theorem specCxTimes_any (a b c d : Nat) (w : World) :
    Calls Try.prog 31 #[.agg #[.float .f64 a, .float .f64 b], .agg #[.float .f64 c, .float .f64 d]] w fun e w' => ∃ x y, e = .returned (.agg #[.float .f64 x, .float .f64 y]) ∧ Alike .f64 x (tRe a b c d) ∧ Alike .f64 y (tIm a b c d) ∧ Below w.heap.size w w' := by
  go_enter Try.func31, Try.ntmps31
  go_wp2_with (with_reducible show wpList _ _ _ (⟨_, .binOp _ _ _ _ _, _, _, _, none⟩ :: _) _ _; refine at_flop (by decide) .f64 _ _ rfl rfl ?_; intro z1 n1 h1)
  rename_i p1 m1 g1 p2 m2 g2 p3 m3 g3 p4 m4 g4 z0 n0 h0
  refine bodyPost_ret (v := .agg #[.float .f64 z0, .float .f64 z1]) (by simp [results, Try.results31, go_sem]) rfl ⟨_, _, rfl, h0.trans (g1.fl g2), h1.trans (g3.fl g4), ?_⟩
  repeat (first | exact bel3d _ _ _ _ | refine Below.setCell ?_ (by simp; try omega) _)

end Go.Proofs.Ytomcbbpaajpeiaa
