/-
  The law FnExactRolls returns true at every argument and writes nothing that was there: the walk. No condition.
-/
import Derived.Test.YtkebjipmbgjilakToRunner
import Derived.Test.YtkebjipmbgjilakRunSpec
import Derived.Test.YtkebjipmbgjilakRunImpl
namespace Go.Proofs.Ytkebjipmbgjilak
open Go.RowKit

set_option maxHeartbeats 2000000 in
theorem lawRolls (p d s e fail lift : Int) (w : World) :
    Calls Try.prog 3 #[.agg #[.int .i64 p, .int .i64 d, .int .i64 s, .int .i64 e], .int .i64 fail, .int .i64 lift] w fun x w' => x = .returned (.bool true) ∧ Below w.heap.size w w' := by
  have B0 := hide (bel1 (w := w) (Obj.cells #[.int .i64 p, .int .i64 d, .int .i64 s, .int .i64 e] 23))
  have R0 := Rn.new (w := w) p d s e 23
  go_enter Try.func3, Try.ntmps3
  go_wp2_with fail
  refine (toRunner_any _ _ _ _ _).mono ?_
  rintro x w1 ⟨rfl, b1⟩
  have R1 := R0.below b1
  have B1 := hide ((unhide B0).trans (b1.mono (by simp)))
  clear b1 R0
  go_wp2_with fail
  refine (specRolls_any p d s e fail lift _).mono ?_
  rintro x w2 ⟨rfl, b2⟩
  have R2 := R1.below b2
  have c0 := R2.c0
  have c1 := R2.c1
  have c2 := R2.c2
  have c3 := R2.c3
  have B2 := hide ((unhide B1).trans (b2.mono (unhide B1).size))
  have R2 := hide R2
  clear b2 R1
  go_wp2_with fail
  refine (toRunner_any _ _ _ _ _).mono ?_
  rintro x w3 ⟨rfl, b3⟩
  have B3 := hide ((unhide B2).trans (b3.mono (unhide B2).size))
  clear b3 c0 c1 c2 c3
  go_wp2_with fail
  refine (implRolls_any p d s e fail lift _).mono ?_
  rintro x w4 ⟨rfl, b4⟩
  have B4 := hide ((unhide B3).trans (b4.mono (unhide B3).size))
  clear b4
  generalize rollR p d s e fail lift = V at *
  obtain ⟨a, b, f⟩ := V
  have hq1 : (a != a) = false := by simp
  have hq2 : (b != b) = false := by simp
  have hq3 : (f != f) = false := by simp
  go_wp2
  go_ret
  exact ⟨rfl, unhide B4⟩

end Go.Proofs.Ytkebjipmbgjilak
