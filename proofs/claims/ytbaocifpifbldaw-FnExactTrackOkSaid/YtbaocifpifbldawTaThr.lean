/-
  What threats and advice are in the program: plain answers, at every argument; nothing that was there is written.
-/
import Derived.Test.YtbaocifpifbldawTaImpl
import Derived.Test.YtbaocifpifbldawTaBel
namespace Go.Proofs.Ytbaocifpifbldaw
open Go.RowKit


theorem frS_up {oi oh oc ti th tc n : Int} (h : (dfN oh oc th tc n - 100 * n).natAbs < (dfN oh oc th tc n + 100 * n).natAbs) : frS oi oh oc ti th tc n = 1 := by simp [frS, h]
theorem frS_down {oi oh oc ti th tc n : Int} (h : (dfN oh oc th tc n + 100 * n).natAbs < (dfN oh oc th tc n - 100 * n).natAbs) : frS oi oh oc ti th tc n = 2 := by
  have : ¬ (dfN oh oc th tc n - 100 * n).natAbs < (dfN oh oc th tc n + 100 * n).natAbs := by omega
  simp [frS, h, this]
theorem frS_same {oi oh oc ti th tc n : Int} (h : (dfN oh oc th tc n + 100 * n).natAbs = (dfN oh oc th tc n - 100 * n).natAbs) : frS oi oh oc ti th tc n = if th < oh ∨ oh = th ∧ ti < oi then 1 else 2 := by simp [frS, h]
theorem dfN_up (oh oc th tc n : Int) : oh + n * (oc + 100) - (th + n * tc) = dfN oh oc th tc n + 100 * n := by unfold dfN; rw [Int.mul_add]; omega
theorem dfN_dn (oh oc th tc n : Int) : oh + n * (oc + -100) - (th + n * tc) = dfN oh oc th tc n - 100 * n := by unfold dfN; rw [Int.mul_add]; omega






end Go.Proofs.Ytbaocifpifbldaw
