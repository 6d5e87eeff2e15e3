/-
  The law FnExactPumpTick returns true at every pump, wish and leak and writes nothing that was there: the walk. No condition.
-/
import Derived.Test.YtdeodlinjilehapPumpSpec
import Derived.Test.YtdeodlinjilehapPumpImpl
namespace Go.Proofs.Ytdeodlinjilehap
open Go.RowKit

set_option maxHeartbeats 1000000 in
theorem toPump7_any (s p f : Int) (w : World) :
    Calls Try.prog 11 #[.agg #[.int .i64 s, .int .i64 p, .int .i64 f]] w fun x w' => x = .returned (.agg #[.int .i64 s, .int .i64 p, .int .i64 f]) ∧ Below w.heap.size w w' := by
  go_enter Try.func11, Try.ntmps11
  go_wp2
  refine bodyPost_ret (v := .agg #[.int .i64 s, .int .i64 p, .int .i64 f]) (by simp [results, Try.results11, go_sem]) rfl ⟨rfl, ?_⟩
  repeat (first | exact Below.refl _ _ | refine Below.setCell ?_ (by simp; try omega) _ | refine Below.alloc ?_ (by simp; try omega) _)
set_option maxHeartbeats 1000000 in
theorem eqPump7_any (s p f : Int) (w : World) :
    Calls Try.prog 13 #[.agg #[.int .i64 s, .int .i64 p, .int .i64 f], .agg #[.int .i64 s, .int .i64 p, .int .i64 f]] w fun x w' => x = .returned (.bool true) ∧ Below w.heap.size w w' := by
  have h1 : (s != s) = false := by simp
  have h2 : (p != p) = false := by simp
  have h3 : (f != f) = false := by simp
  go_enter Try.func13, Try.ntmps13
  go_wp2
  go_ret
  exact ⟨rfl, bel2 _ _⟩

set_option maxHeartbeats 2000000 in
theorem lawPumpTick (s p f : Int) (want : Bool) (k : Int) (w : World) :
    Calls Try.prog 4 #[.agg #[.int .i64 s, .int .i64 p, .int .i64 f], .bool want, .int .i64 k] w fun x w' => x = .returned (.bool true) ∧ Below w.heap.size w w' := by
  have B0 := hide (bel1 (w := w) (Obj.cells #[.int .i64 s, .int .i64 p, .int .i64 f] 33))
  have R0 := hide (Blk.new (w := w) [.int .i64 s, .int .i64 p, .int .i64 f] 33)
  have hq : (pumpB s p f k != pumpB s p f k) = false := by simp
  obtain ⟨T, hT⟩ : ∃ T, pumpT s p f want k = T := ⟨_, rfl⟩
  have HT := hide hT
  clear hT
  go_enter Try.func4, Try.ntmps4
  go_wp2_with fail
  refine (toPump7_any _ _ _ _).mono ?_
  rintro x w1 ⟨rfl, b1⟩
  have R1 := hide ((unhide R0).below b1)
  have B1 := hide ((unhide B0).trans (b1.mono (by simp)))
  clear b1 R0 B0
  go_wp2_with fail
  refine (specPump_any s p f want k _).mono ?_
  rintro x w2 ⟨rfl, b2⟩
  rw [unhide HT]
  obtain ⟨W2, hW2⟩ : ∃ W2, W2 = w2.alloc (Obj.cells #[.int .i64 T.1, .int .i64 T.2.1, .int .i64 T.2.2] 34) := ⟨_, rfl⟩
  have bb : Below w1.heap.size w1 W2 := by rw [hW2]; exact b2.trans ((bel1 (w := w2) _).mono b2.size)
  have r2 := (unhide R1).below bb
  have S2 : Hid (Blk W2 w2.heap.size [.int .i64 T.1, .int .i64 T.2.1, .int .i64 T.2.2]) := hide (by rw [hW2]; exact Blk.new _ _)
  have c0 : W2.cell? ⟨w.heap.size, 0, none⟩ = some (.int .i64 s) := r2.c 0 (by simp)
  have c1 : W2.cell? ⟨w.heap.size, 1, none⟩ = some (.int .i64 p) := r2.c 1 (by simp)
  have c2 : W2.cell? ⟨w.heap.size, 2, none⟩ = some (.int .i64 f) := r2.c 2 (by simp)
  have B2 := hide ((unhide B1).trans (bb.mono (unhide B1).size))
  rw [hW2] at c0 c1 c2
  have HW2 := hide hW2
  clear bb r2 b2 R1 B1 hW2
  go_wp2_with fail
  rw [← unhide HW2]
  clear c0 c1 c2 HW2
  generalize w2.heap.size = G2 at *
  refine (toPump7_any _ _ _ _).mono ?_
  rintro x w3 ⟨rfl, b3⟩
  have S3 := hide ((unhide S2).below b3)
  have B3 := hide ((unhide B2).trans (b3.mono (unhide B2).size))
  clear b3 S2 B2
  go_wp2_with fail
  refine (implPump_any s p f want k _).mono ?_
  rintro x w4 ⟨rfl, b4⟩
  rw [unhide HT]
  obtain ⟨W4, hW4⟩ : ∃ W4, W4 = w4.alloc (Obj.cells #[.int .i64 T.1, .int .i64 T.2.1, .int .i64 T.2.2] 34) := ⟨_, rfl⟩
  have bb : Below w3.heap.size w3 W4 := by rw [hW4]; exact b4.trans ((bel1 (w := w4) _).mono b4.size)
  have s4 := (unhide S3).below bb
  have B4 := hide ((unhide B3).trans (bb.mono (unhide B3).size))
  have c0 : W4.cell? ⟨G2, 0, none⟩ = some (.int .i64 T.1) := s4.c 0 (by simp)
  have c1 : W4.cell? ⟨G2, 1, none⟩ = some (.int .i64 T.2.1) := s4.c 1 (by simp)
  have c2 : W4.cell? ⟨G2, 2, none⟩ = some (.int .i64 T.2.2) := s4.c 2 (by simp)
  rw [hW4] at c0 c1 c2
  have HW4 := hide hW4
  clear bb s4 b4 B3 S3 hW4
  go_wp2_with fail
  rw [← unhide HW4]
  clear c0 c1 c2 HW4
  refine (eqPump7_any _ _ _ _).mono ?_
  rintro x w5 ⟨rfl, b5⟩
  have B5 := hide ((unhide B4).trans (b5.mono (unhide B4).size))
  clear b5
  go_wp2_with fail
  go_ret
  exact ⟨rfl, unhide B5⟩

end Go.Proofs.Ytdeodlinjilehap
