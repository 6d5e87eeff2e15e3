/-
  The law FnExactFlights returns true at every crack and writes nothing that was there: the walk. No condition.
-/
import Derived.Test.YtnpohiceefkhdaoFlSpec
import Derived.Test.YtnpohiceefkhdaoFlImpl
namespace Go.Proofs.Ytnpohiceefkhdao
open Go.RowKit

set_option maxHeartbeats 2000000 in
theorem lawFlights (n l g : Int) (w : World) :
    Calls Try.prog 4 #[.agg #[.int .i64 n, .int .i64 l, .int .i64 g]] w fun x w' => x = .returned (.bool true) ∧ Below w.heap.size w w' := by
  have B0 := hide (bel1 (w := w) (Obj.cells #[.int .i64 n, .int .i64 l, .int .i64 g] 29))
  have R0 := Blk.new (w := w) [.int .i64 n, .int .i64 l, .int .i64 g] 29
  have hq1 : (flN n l g != flN n l g) = false := by simp
  have hq2 : (flB n l g != flB n l g) = false := by simp
  go_enter Try.func4, Try.ntmps4
  go_wp2_with fail
  refine (toCrack_any _ _ _ _).mono ?_
  rintro x w1 ⟨rfl, b1⟩
  have R1 := R0.below b1
  have B1 := hide ((unhide B0).trans (b1.mono (by simp)))
  clear b1 R0
  go_wp2_with fail
  refine (specFlights_any n l g _).mono ?_
  rintro x w2 ⟨rfl, b2⟩
  have R2 := R1.below b2
  have c0 : w2.cell? ⟨w.heap.size, 0, none⟩ = some (.int .i64 n) := R2.c 0 (by simp)
  have c1 : w2.cell? ⟨w.heap.size, 1, none⟩ = some (.int .i64 l) := R2.c 1 (by simp)
  have c2 : w2.cell? ⟨w.heap.size, 2, none⟩ = some (.int .i64 g) := R2.c 2 (by simp)
  have B2 := hide ((unhide B1).trans (b2.mono (unhide B1).size))
  clear b2 R1 R2
  go_wp2_with fail
  refine (toCrack_any _ _ _ _).mono ?_
  rintro x w3 ⟨rfl, b3⟩
  have B3 := hide ((unhide B2).trans (b3.mono (unhide B2).size))
  clear b3 c0 c1 c2
  go_wp2_with fail
  refine (implFlights_any n l g _).mono ?_
  rintro x w4 ⟨rfl, b4⟩
  have B4 := hide ((unhide B3).trans (b4.mono (unhide B3).size))
  clear b4
  go_wp2_with fail
  go_ret
  exact ⟨rfl, unhide B4⟩

end Go.Proofs.Ytnpohiceefkhdao
