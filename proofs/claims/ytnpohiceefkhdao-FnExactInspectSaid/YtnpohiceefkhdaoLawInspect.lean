/-
  The law FnExactInspect returns true at every argument and writes nothing that was there: the walk. No condition.
-/
import Derived.Test.YtnpohiceefkhdaoInSpec
import Derived.Test.YtnpohiceefkhdaoInImpl
namespace Go.Proofs.Ytnpohiceefkhdao
open Go.RowKit

set_option maxHeartbeats 2000000 in
theorem lawInspect (n l g a p : Int) (w : World) :
    Calls Try.prog 5 #[.agg #[.int .i64 n, .int .i64 l, .int .i64 g], .int .i64 a, .int .i64 p] w fun x w' => x = .returned (.bool true) ∧ Below w.heap.size w w' := by
  have B0 := hide (bel1 (w := w) (Obj.cells #[.int .i64 n, .int .i64 l, .int .i64 g] 29))
  have R0 := Blk.new (w := w) [.int .i64 n, .int .i64 l, .int .i64 g] 29
  have hq1 : (lookN n l g a p != lookN n l g a p) = false := by simp
  have hq2 : (lookB n l g a p != lookB n l g a p) = false := by simp
  go_enter Try.func5, Try.ntmps5
  go_wp2_with fail
  refine (toCrack_any _ _ _ _).mono ?_
  rintro x w1 ⟨rfl, b1⟩
  have R1 := R0.below b1
  have B1 := hide ((unhide B0).trans (b1.mono (by simp)))
  clear b1 R0
  go_wp2_with fail
  refine (specInspect_any n l g a p _).mono ?_
  rintro x w2 ⟨rfl, b2⟩
  have R2 := R1.below b2
  have c0 : w2.cell? ⟨w.heap.size, 0, none⟩ = some (.int .i64 n) := R2.c 0 (by simp)
  have c1 : w2.cell? ⟨w.heap.size, 1, none⟩ = some (.int .i64 l) := R2.c 1 (by simp)
  have c2 : w2.cell? ⟨w.heap.size, 2, none⟩ = some (.int .i64 g) := R2.c 2 (by simp)
  have B2 := hide ((unhide B1).trans (b2.mono (unhide B1).size))
  clear b2 R1 R2
  go_wp2_with fail
  refine (toCrack_any _ _ _ _).mono ?_
  rintro x w3 ⟨rfl, b3⟩
  have B3 := hide ((unhide B2).trans (b3.mono (unhide B2).size))
  clear b3 c0 c1 c2
  go_wp2_with fail
  refine (implInspect_any n l g a p _).mono ?_
  rintro x w4 ⟨rfl, b4⟩
  have B4 := hide ((unhide B3).trans (b4.mono (unhide B3).size))
  clear b4
  go_wp2_with fail
  go_ret
  exact ⟨rfl, unhide B4⟩

end Go.Proofs.Ytnpohiceefkhdao
