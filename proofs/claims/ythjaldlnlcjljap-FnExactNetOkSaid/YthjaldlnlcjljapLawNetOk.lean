/-
  The law FnExactNetOk returns true at every net and writes nothing that was there: the walk. No condition.
-/
import Derived.Test.YthjaldlnlcjljapNetTo
import Derived.Test.YthjaldlnlcjljapNetSpec
import Derived.Test.YthjaldlnlcjljapNetImpl
import Derived.Deep.RegionHeld3
namespace Go.Proofs.Ythjaldlnlcjljap
open Go.RowKit

set_option maxRecDepth 20000 in
set_option maxHeartbeats 4000000 in
theorem lawNetOk (n : Int) (a1 a2 a3 : Option Addr) (l1 c1 l2 c2 l3 c3 : Nat) (ss : List Sr) (ts : List Ti) (us : List Us) (w : World) (hr : NetIn w a1 a2 a3 l1 l2 l3 ss ts us) :
    Calls Try.prog 3 #[.agg #[.int .i64 n, .slice a1 l1 c1, .slice a2 l2 c2, .slice a3 l3 c3]] w fun x w' => x = .returned (.bool true) ∧ Below w.heap.size w w' := by
  have R := hide hr
  have s1 := hr.r1.small
  have s2 := hr.r2.small
  have s3 := hr.r3.small
  clear hr
  have KP := hide (Blk.new (w := w) [.int .i64 n, .slice a1 l1 c1, .slice a2 l2 c2, .slice a3 l3 c3] 26)
  have HB := hide (bel1 (w := w) (Obj.cells #[.int .i64 n, .slice a1 l1 c1, .slice a2 l2 c2, .slice a3 l3 c3] 26))
  have hq : (netB n ss ts us != netB n ss ts us) = false := by simp
  go_enter Try.func3, Try.ntmps3
  go_wp2_with fail
  refine (szNet7_any n a1 a2 a3 l1 c1 l2 c2 l3 c3 _ s1 s2 s3).mono ?_
  rintro x w1 ⟨⟨r, rfl, hl⟩, b⟩
  have HB := hide ((unhide HB).trans (b.mono (unhide HB).size))
  have KP := hide ((unhide KP).below b)
  have m0 : w1.cell? ⟨w.heap.size, 0, none⟩ = some (.int .i64 n) := (unhide KP).c 0 (by simp)
  have m1 : w1.cell? ⟨w.heap.size, 1, none⟩ = some (.slice a1 l1 c1) := (unhide KP).c 1 (by simp)
  have m2 : w1.cell? ⟨w.heap.size, 2, none⟩ = some (.slice a2 l2 c2) := (unhide KP).c 2 (by simp)
  have m3 : w1.cell? ⟨w.heap.size, 3, none⟩ = some (.slice a3 l3 c3) := (unhide KP).c 3 (by simp)
  clear b
  rcases hl with hl | ⟨hl, h1, h2, h3⟩
  · go_wp2_with fail
    go_ret
    exact ⟨rfl, unhide HB⟩
  have hl' : ¬ r < 0 := by omega
  go_wp2_with fail
  refine (toNet7_own n a1 a2 a3 l1 c1 l2 c2 l3 c3 ss ts us _ ((unhide R).below (unhide HB)) h1 h2 h3).mono ?_
  rintro x w2 ⟨⟨g1, g2, g3, rfl, o2⟩, b⟩
  have HB := hide ((unhide HB).trans (b.mono (unhide HB).size))
  have KP := hide ((unhide KP).below b)
  have I2 := hide o2.read
  clear b o2 m0 m1 m2 m3
  go_wp2_with fail
  refine (specNetOk_any n _ _ _ _ _ _ _ _ _ ss ts us _ (unhide I2).r1 (unhide I2).r2 (unhide I2).r3).mono ?_
  rintro x w3 ⟨rfl, b⟩
  have HB := hide ((unhide HB).trans (b.mono (unhide HB).size))
  have KP := hide ((unhide KP).below b)
  have m0 : w3.cell? ⟨w.heap.size, 0, none⟩ = some (.int .i64 n) := (unhide KP).c 0 (by simp)
  have m1 : w3.cell? ⟨w.heap.size, 1, none⟩ = some (.slice a1 l1 c1) := (unhide KP).c 1 (by simp)
  have m2 : w3.cell? ⟨w.heap.size, 2, none⟩ = some (.slice a2 l2 c2) := (unhide KP).c 2 (by simp)
  have m3 : w3.cell? ⟨w.heap.size, 3, none⟩ = some (.slice a3 l3 c3) := (unhide KP).c 3 (by simp)
  clear b I2
  go_wp2_with fail
  refine (toNet7_own n a1 a2 a3 l1 c1 l2 c2 l3 c3 ss ts us _ ((unhide R).below (unhide HB)) h1 h2 h3).mono ?_
  rintro x w4 ⟨⟨k1, k2, k3, rfl, o4⟩, b⟩
  have HB := hide ((unhide HB).trans (b.mono (unhide HB).size))
  have KP := hide ((unhide KP).below b)
  clear b m0 m1 m2 m3
  obtain ⟨V, hV⟩ : ∃ V, V = w4.alloc (Obj.cells #[.int .i64 n, .slice (some ⟨k1, 0, none⟩) l1 l1, .slice (some ⟨k2, 0, none⟩) l2 l2, .slice (some ⟨k3, 0, none⟩) l3 l3] 33) := ⟨_, rfl⟩
  have bV : Below w4.heap.size w4 V := by rw [hV]; exact bel1 _
  have KX : Hid (Blk V w4.heap.size [.int .i64 n, .slice (some ⟨k1, 0, none⟩) l1 l1, .slice (some ⟨k2, 0, none⟩) l2 l2, .slice (some ⟨k3, 0, none⟩) l3 l3]) := hide (by rw [hV]; exact Blk.new _ _)
  have HB := hide ((unhide HB).trans (bV.mono (unhide HB).size))
  have KP := hide ((unhide KP).below bV)
  have IX := hide (o4.read.below bV)
  have HV := hide hV
  obtain ⟨X, hX⟩ : ∃ X, w4.heap.size = X := ⟨_, rfl⟩
  rw [hX] at KX
  have HX := hide hX
  clear hV bV o4 hX
  go_wp2_with fail
  rw [← unhide HV, unhide HX]
  clear HV HX
  refine (implNetOk_any n _ _ _ _ _ _ _ _ _ ss ts us _ (unhide IX).r1 (unhide IX).r2 (unhide IX).r3).mono ?_
  rintro x w5 ⟨rfl, b⟩
  have HB := hide ((unhide HB).trans (b.mono (unhide HB).size))
  have KP := hide ((unhide KP).below b)
  have KX := hide ((unhide KX).below b)
  have IX := hide ((unhide IX).below b)
  clear b
  have m0 : w5.cell? ⟨w.heap.size, 0, none⟩ = some (.int .i64 n) := (unhide KP).c 0 (by simp)
  have m1 : w5.cell? ⟨w.heap.size, 1, none⟩ = some (.slice a1 l1 c1) := (unhide KP).c 1 (by simp)
  have m2 : w5.cell? ⟨w.heap.size, 2, none⟩ = some (.slice a2 l2 c2) := (unhide KP).c 2 (by simp)
  have m3 : w5.cell? ⟨w.heap.size, 3, none⟩ = some (.slice a3 l3 c3) := (unhide KP).c 3 (by simp)
  have n0 : w5.cell? ⟨X, 0, none⟩ = some (.int .i64 n) := (unhide KX).c 0 (by simp)
  have n1 : w5.cell? ⟨X, 1, none⟩ = some (.slice (some ⟨k1, 0, none⟩) l1 l1) := (unhide KX).c 1 (by simp)
  have n2 : w5.cell? ⟨X, 2, none⟩ = some (.slice (some ⟨k2, 0, none⟩) l2 l2) := (unhide KX).c 2 (by simp)
  have n3 : w5.cell? ⟨X, 3, none⟩ = some (.slice (some ⟨k3, 0, none⟩) l3 l3) := (unhide KX).c 3 (by simp)
  have K : Hid (Below w5.heap.size w5 w5) := hide (Below.refl _ _)
  go_wp2_with fail
  go_region_held3 (fun w' => w'.cell? ⟨w.heap.size, 0, none⟩ = some (.int .i64 n) ∧ w'.cell? ⟨w.heap.size, 1, none⟩ = some (.slice a1 l1 c1) ∧ w'.cell? ⟨w.heap.size, 2, none⟩ = some (.slice a2 l2 c2) ∧ w'.cell? ⟨w.heap.size, 3, none⟩ = some (.slice a3 l3 c3) ∧ w'.cell? ⟨X, 0, none⟩ = some (.int .i64 n) ∧ w'.cell? ⟨X, 1, none⟩ = some (.slice (some ⟨k1, 0, none⟩) l1 l1) ∧ w'.cell? ⟨X, 2, none⟩ = some (.slice (some ⟨k2, 0, none⟩) l2 l2) ∧ w'.cell? ⟨X, 3, none⟩ = some (.slice (some ⟨k3, 0, none⟩) l3 l3)) (go_keep)
    ((first
      | (go_at_call 10; refine (toNet7_own n a1 a2 a3 l1 c1 l2 c2 l3 c3 ss ts us _ ((unhide R).below (show Below w.heap.size w _ from by first | exact (unhide HB).trans ((unhide K).mono (unhide HB).size) | exact ((unhide HB).trans ((unhide K).mono (unhide HB).size)).trans (bel0d' 1))) h1 h2 h3).mono ?_; rintro x w6 ⟨⟨e1, e2, e3, rfl, o6⟩, b⟩; have I6 := hide o6.read; have K := hide (show Below w5.heap.size w5 w6 from by first | exact (unhide K).trans (b.mono (unhide K).size) | exact ((unhide K).trans (bel0d' 1)).trans (b.mono (unhide K).size)); have Y := (unhide KP).below (unhide K); have Z := (unhide KX).below (unhide K); clear m0 m1 m2 m3 n0 n1 n2 n3 o6 b; have m0 := Y.c 0 (by simp); have m1 := Y.c 1 (by simp); have m2 := Y.c 2 (by simp); have m3 := Y.c 3 (by simp); have n0 := Z.c 0 (by simp); have n1 := Z.c 1 (by simp); have n2 := Z.c 2 (by simp); have n3 := Z.c 3 (by simp); clear Y Z)
      | (go_at_call 12; refine (eqNet7_any n _ _ _ _ _ _ _ _ _ _ _ _ _ _ _ ss ts us _ (by first | exact (unhide IX).below (unhide K) | exact ((unhide IX).below (unhide K)).below (bel0d 1)) (by first | exact unhide I6 | exact (unhide I6).below (bel0d 1))).mono ?_; rintro x w7 ⟨rfl, b⟩; have K := hide (show Below w5.heap.size w5 w7 from by first | exact (unhide K).trans (b.mono (unhide K).size) | exact ((unhide K).trans (bel0d' 1)).trans (b.mono (unhide K).size)); have Y := (unhide KP).below (unhide K); have Z := (unhide KX).below (unhide K); clear m0 m1 m2 m3 n0 n1 n2 n3 b; have m0 := Y.c 0 (by simp); have m1 := Y.c 1 (by simp); have m2 := Y.c 2 (by simp); have m3 := Y.c 3 (by simp); have n0 := Z.c 0 (by simp); have n1 := Z.c 1 (by simp); have n2 := Z.c 2 (by simp); have n3 := Z.c 3 (by simp); clear Y Z)))
  have HB := hide ((unhide HB).trans ((unhide K).mono (unhide HB).size))
  clear m0 m1 m2 m3 n0 n1 n2 n3
  go_wp2_with fail
  go_ret
  exact ⟨rfl, unhide HB⟩

end Go.Proofs.Ythjaldlnlcjljap
