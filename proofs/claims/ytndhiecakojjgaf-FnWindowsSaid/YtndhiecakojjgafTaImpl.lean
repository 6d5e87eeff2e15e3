/-
  What the small functions of keeping apart answer in the program: plain answers, at every argument; nothing that was there is written.
-/
import Derived.Test.YtndhiecakojjgafSmall
import Derived.Test.YtndhiecakojjgafTaPure
import Derived.Test.YtndhiecakojjgafBlk1
namespace Go.Proofs.Ytndhiecakojjgaf
open Go.RowKit

theorem taDr {B : Nat} {w w' : World} (h : Below B w w') (n : Nat) : Below B w (w'.drewN n) := h.trans (bel0d' n)





set_option maxRecDepth 20000 in
set_option maxHeartbeats 2000000 in
theorem heightIn_al {r : Int} (i h c s n : Int) (w : World) (hh : -1000 ≤ h ∧ h ≤ 60000) (hk : -1000 ≤ c ∧ c ≤ 1000) (hn : 0 ≤ n ∧ n ≤ 1001000) (hc : h + n * c = r) :
    Calls Try.prog 36 #[.agg #[.int .i64 i, .int .i64 h, .int .i64 c, .int .i64 s], .int .i64 n] w fun e w' => e = .returned (.int .i64 r) ∧ w' = w.alloc (Obj.cells #[.int .i64 i, .int .i64 h, .int .i64 c, .int .i64 s] 73) := by
  subst hc
  have m1 := mulBd (s := n) (d := c) (A := 1001000) (B := 1000) (by omega) (by omega) (by omega) (by omega) (by omega) (by omega)
  go_enter Try.func36, Try.ntmps36
  go_wp2
  go_ret
  exact ⟨rfl, rfl⟩







end Go.Proofs.Ytndhiecakojjgaf
