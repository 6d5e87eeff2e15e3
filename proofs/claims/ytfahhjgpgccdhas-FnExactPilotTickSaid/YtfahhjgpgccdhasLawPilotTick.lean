/-
  The law FnExactPilotTick returns true at every pilot and number and writes nothing that was there: the walk. No condition.
-/
import Derived.Test.YtfahhjgpgccdhasApTickS
import Derived.Test.YtfahhjgpgccdhasApTickI
namespace Go.Proofs.Ytfahhjgpgccdhas
open Go.RowKit

set_option maxRecDepth 20000 in
set_option maxHeartbeats 3000000 in
theorem lawPilotTick (v l g t r a b o : Int) (m : Bool) (d : Int) (w : World) :
    Calls Try.prog 6 #[.agg #[.int .i64 v, .int .i64 l, .int .i64 g, .int .i64 t, .int .i64 r, .int .i64 a, .int .i64 b, .int .i64 o, .bool m], .int .i64 d] w fun x w' => x = .returned (.bool true) ∧ Below w.heap.size w w' := by
  have B0 := hide (bel1 (w := w) (Obj.cells #[.int .i64 v, .int .i64 l, .int .i64 g, .int .i64 t, .int .i64 r, .int .i64 a, .int .i64 b, .int .i64 o, .bool m] 26))
  have R0 := hide (Blk.new (w := w) [.int .i64 v, .int .i64 l, .int .i64 g, .int .i64 t, .int .i64 r, .int .i64 a, .int .i64 b, .int .i64 o, .bool m] 26)
  obtain ⟨K, hK⟩ : ∃ K, okT ⟨v, l, g, t, r, a, b, o, m⟩ d = K := ⟨_, rfl⟩
  obtain ⟨T, hT⟩ : ∃ T, tickP ⟨v, l, g, t, r, a, b, o, m⟩ d = T := ⟨_, rfl⟩
  have HT := hide hT
  have HK := hide hK
  have hq : (K != K) = false := by simp
  clear hT hK
  obtain ⟨t0, t1, t2, t3, t4, t5, t6, t7, t8⟩ := T
  go_enter Try.func6, Try.ntmps6
  go_wp2_with fail
  refine (toPilot_any _ _ _ _ _ _ _ _ _ _).mono ?_
  rintro x w1 ⟨rfl, b1⟩
  have R1 := hide ((unhide R0).below b1)
  have B1 := hide ((unhide B0).trans (b1.mono (by simp)))
  clear b1 R0 B0
  go_wp2_with fail
  refine (specPilotTick_any _ _ _ _ _ _ _ _ _ _ _).mono ?_
  rintro x w2 ⟨rfl, b2⟩
  rw [unhide HT, unhide HK]
  dsimp only
  obtain ⟨W2, hW2⟩ : ∃ W2, W2 = w2.alloc (Obj.cells #[.int .i64 t0, .int .i64 t1, .int .i64 t2, .int .i64 t3, .int .i64 t4, .int .i64 t5, .int .i64 t6, .int .i64 t7, .bool t8] 28) := ⟨_, rfl⟩
  have bb : Below w1.heap.size w1 W2 := by rw [hW2]; exact b2.trans ((bel1 (w := w2) _).mono b2.size)
  have r2 := (unhide R1).below bb
  have S2 : Hid (Blk W2 w2.heap.size [.int .i64 t0, .int .i64 t1, .int .i64 t2, .int .i64 t3, .int .i64 t4, .int .i64 t5, .int .i64 t6, .int .i64 t7, .bool t8]) := hide (by rw [hW2]; exact Blk.new _ _)
  have c0 : W2.cell? ⟨w.heap.size, 0, none⟩ = some (.int .i64 v) := r2.c 0 (by simp)
  have c1 : W2.cell? ⟨w.heap.size, 1, none⟩ = some (.int .i64 l) := r2.c 1 (by simp)
  have c2 : W2.cell? ⟨w.heap.size, 2, none⟩ = some (.int .i64 g) := r2.c 2 (by simp)
  have c3 : W2.cell? ⟨w.heap.size, 3, none⟩ = some (.int .i64 t) := r2.c 3 (by simp)
  have c4 : W2.cell? ⟨w.heap.size, 4, none⟩ = some (.int .i64 r) := r2.c 4 (by simp)
  have c5 : W2.cell? ⟨w.heap.size, 5, none⟩ = some (.int .i64 a) := r2.c 5 (by simp)
  have c6 : W2.cell? ⟨w.heap.size, 6, none⟩ = some (.int .i64 b) := r2.c 6 (by simp)
  have c7 : W2.cell? ⟨w.heap.size, 7, none⟩ = some (.int .i64 o) := r2.c 7 (by simp)
  have c8 : W2.cell? ⟨w.heap.size, 8, none⟩ = some (.bool m) := r2.c 8 (by simp)
  have B2 := hide ((unhide B1).trans (bb.mono (unhide B1).size))
  rw [hW2] at c0 c1 c2 c3 c4 c5 c6 c7 c8
  have HW2 := hide hW2
  clear bb r2 b2 R1 B1 hW2
  go_wp2_with fail
  rw [← unhide HW2]
  clear c0 c1 c2 c3 c4 c5 c6 c7 c8 HW2
  generalize w2.heap.size = G2 at *
  refine (toPilot_any _ _ _ _ _ _ _ _ _ _).mono ?_
  rintro x w3 ⟨rfl, b3⟩
  have S3 := hide ((unhide S2).below b3)
  have B3 := hide ((unhide B2).trans (b3.mono (unhide B2).size))
  clear b3 S2 B2
  go_wp2_with fail
  refine (implPilotTick_any _ _ _ _ _ _ _ _ _ _ _).mono ?_
  rintro x w4 ⟨rfl, b4⟩
  rw [unhide HT, unhide HK]
  dsimp only
  obtain ⟨W4, hW4⟩ : ∃ W4, W4 = w4.alloc (Obj.cells #[.int .i64 t0, .int .i64 t1, .int .i64 t2, .int .i64 t3, .int .i64 t4, .int .i64 t5, .int .i64 t6, .int .i64 t7, .bool t8] 28) := ⟨_, rfl⟩
  have bb : Below w3.heap.size w3 W4 := by rw [hW4]; exact b4.trans ((bel1 (w := w4) _).mono b4.size)
  have s4 := (unhide S3).below bb
  have B4 := hide ((unhide B3).trans (bb.mono (unhide B3).size))
  have c0 : W4.cell? ⟨G2, 0, none⟩ = some (.int .i64 t0) := s4.c 0 (by simp)
  have c1 : W4.cell? ⟨G2, 1, none⟩ = some (.int .i64 t1) := s4.c 1 (by simp)
  have c2 : W4.cell? ⟨G2, 2, none⟩ = some (.int .i64 t2) := s4.c 2 (by simp)
  have c3 : W4.cell? ⟨G2, 3, none⟩ = some (.int .i64 t3) := s4.c 3 (by simp)
  have c4 : W4.cell? ⟨G2, 4, none⟩ = some (.int .i64 t4) := s4.c 4 (by simp)
  have c5 : W4.cell? ⟨G2, 5, none⟩ = some (.int .i64 t5) := s4.c 5 (by simp)
  have c6 : W4.cell? ⟨G2, 6, none⟩ = some (.int .i64 t6) := s4.c 6 (by simp)
  have c7 : W4.cell? ⟨G2, 7, none⟩ = some (.int .i64 t7) := s4.c 7 (by simp)
  have c8 : W4.cell? ⟨G2, 8, none⟩ = some (.bool t8) := s4.c 8 (by simp)
  rw [hW4] at c0 c1 c2 c3 c4 c5 c6 c7 c8
  have HW4 := hide hW4
  clear bb s4 b4 B3 S3 hW4
  go_wp2_with fail
  rw [← unhide HW4]
  clear c0 c1 c2 c3 c4 c5 c6 c7 c8 HW4
  refine (eqPilot_alike _ _ _ _ _ _ _ _ _ _ _ _ _ _ _ _ _ _ _ (plAlike_refl _)).mono ?_
  rintro x w5 ⟨rfl, b5⟩
  have B5 := hide ((unhide B4).trans (b5.mono (unhide B4).size))
  clear b5
  go_wp2_with fail
  go_ret
  exact ⟨rfl, unhide B5⟩

end Go.Proofs.Ytfahhjgpgccdhas
