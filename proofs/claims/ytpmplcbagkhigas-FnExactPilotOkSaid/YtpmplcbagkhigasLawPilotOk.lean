/-
  The law FnExactPilotOk returns true at every pilot and writes nothing that was there: the walk. No condition.
-/
import Derived.Test.YtpmplcbagkhigasApSpec
import Derived.Test.YtpmplcbagkhigasApImpl
namespace Go.Proofs.Ytpmplcbagkhigas
open Go.RowKit

set_option maxHeartbeats 3000000 in
theorem lawPilotOk (v l g t r a b o : Int) (m : Bool) (w : World) :
    Calls Try.prog 4 #[.agg #[.int .i64 v, .int .i64 l, .int .i64 g, .int .i64 t, .int .i64 r, .int .i64 a, .int .i64 b, .int .i64 o, .bool m]] w fun x w' => x = .returned (.bool true) ∧ Below w.heap.size w w' := by
  have B0 := hide (bel1 (w := w) (Obj.cells #[.int .i64 v, .int .i64 l, .int .i64 g, .int .i64 t, .int .i64 r, .int .i64 a, .int .i64 b, .int .i64 o, .bool m] 26))
  have R0 := hide (Blk.new (w := w) [.int .i64 v, .int .i64 l, .int .i64 g, .int .i64 t, .int .i64 r, .int .i64 a, .int .i64 b, .int .i64 o, .bool m] 26)
  obtain ⟨K, hK⟩ : ∃ K, apOk ⟨v, l, g, t, r, a, b, o, m⟩ = K := ⟨_, rfl⟩
  have HK := hide hK
  have hq : (K != K) = false := by simp
  clear hK
  go_enter Try.func4, Try.ntmps4
  go_wp2_with fail
  refine (toPilot_any _ _ _ _ _ _ _ _ _ _).mono ?_
  rintro x w1 ⟨rfl, b1⟩
  have R1 := hide ((unhide R0).below b1)
  have B1 := hide ((unhide B0).trans (b1.mono (by simp)))
  clear b1 R0 B0
  go_wp2_with fail
  refine (specPilotOk_any _ _ _ _ _ _ _ _ _ _).mono ?_
  rintro x w2 ⟨rfl, b2⟩
  rw [unhide HK]
  have r2 := (unhide R1).below b2
  have c0 : w2.cell? ⟨w.heap.size, 0, none⟩ = some (.int .i64 v) := r2.c 0 (by simp)
  have c1 : w2.cell? ⟨w.heap.size, 1, none⟩ = some (.int .i64 l) := r2.c 1 (by simp)
  have c2 : w2.cell? ⟨w.heap.size, 2, none⟩ = some (.int .i64 g) := r2.c 2 (by simp)
  have c3 : w2.cell? ⟨w.heap.size, 3, none⟩ = some (.int .i64 t) := r2.c 3 (by simp)
  have c4 : w2.cell? ⟨w.heap.size, 4, none⟩ = some (.int .i64 r) := r2.c 4 (by simp)
  have c5 : w2.cell? ⟨w.heap.size, 5, none⟩ = some (.int .i64 a) := r2.c 5 (by simp)
  have c6 : w2.cell? ⟨w.heap.size, 6, none⟩ = some (.int .i64 b) := r2.c 6 (by simp)
  have c7 : w2.cell? ⟨w.heap.size, 7, none⟩ = some (.int .i64 o) := r2.c 7 (by simp)
  have c8 : w2.cell? ⟨w.heap.size, 8, none⟩ = some (.bool m) := r2.c 8 (by simp)
  have B2 := hide ((unhide B1).trans (b2.mono (unhide B1).size))
  clear r2 b2 R1 B1
  go_wp2_with fail
  clear c0 c1 c2 c3 c4 c5 c6 c7 c8
  refine (toPilot_any _ _ _ _ _ _ _ _ _ _).mono ?_
  rintro x w3 ⟨rfl, b3⟩
  have B3 := hide ((unhide B2).trans (b3.mono (unhide B2).size))
  clear b3 B2
  go_wp2_with fail
  refine (implPilotOk_any _ _ _ _ _ _ _ _ _ _).mono ?_
  rintro x w4 ⟨rfl, b4⟩
  rw [unhide HK]
  have B4 := hide ((unhide B3).trans (b4.mono (unhide B3).size))
  clear b4 B3
  go_wp2_with fail
  go_ret
  exact ⟨rfl, unhide B4⟩

end Go.Proofs.Ytpmplcbagkhigas
