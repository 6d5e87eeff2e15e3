/-
  What the small functions of keeping apart answer in the program: plain answers, at every argument; nothing that was there is written.
-/
import Derived.Test.YtnhcmokkankcmafSmall
import Derived.Test.YtnhcmokkankcmafTaPure
import Derived.Test.YtnhcmokkankcmafFrac
import Derived.Test.YtnhcmokkankcmafBlks
namespace Go.Proofs.Ytnhcmokkankcmaf
open Go.RowKit

theorem taDr {B : Nat} {w w' : World} (h : Below B w w') (n : Nat) : Below B w (w'.drewN n) := h.trans (bel0d' n)





set_option maxRecDepth 20000 in
set_option maxHeartbeats 2000000 in
theorem heightIn_al {r : Int} (i h c s n : Int) (w : World) (hh : -1000 ≤ h ∧ h ≤ 60000) (hk : -1000 ≤ c ∧ c ≤ 1000) (hn : 0 ≤ n ∧ n ≤ 1001000) (hc : h + n * c = r) :
    Calls Try.prog 28 #[.agg #[.int .i64 i, .int .i64 h, .int .i64 c, .int .i64 s], .int .i64 n] w fun e w' => e = .returned (.int .i64 r) ∧ w' = w.alloc (Obj.cells #[.int .i64 i, .int .i64 h, .int .i64 c, .int .i64 s] 58) := by
  subst hc
  have m1 := mulBd (s := n) (d := c) (A := 1001000) (B := 1000) (by omega) (by omega) (by omega) (by omega) (by omega) (by omega)
  go_enter Try.func28, Try.ntmps28
  go_wp2
  go_ret
  exact ⟨rfl, rfl⟩







end Go.Proofs.Ytnhcmokkankcmaf
