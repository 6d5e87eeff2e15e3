/-
  The law FnExactFitWindow returns true at every argument and writes nothing that was there: the walk. No condition.
-/
import Derived.Test.YtndhiecakojjgbaFtAny
import Derived.Test.YtndhiecakojjgbaPpMark
import Derived.Test.YtndhiecakojjgbaOnly
import Derived.Deep.RegionHeld3
namespace Go.Proofs.Ytndhiecakojjgba
open Go.RowKit
set_option maxRecDepth 20000 in
set_option maxHeartbeats 8000000 in
theorem lawFitWindow (fr pa : Int) (da1 : Option Addr) (dl1 dc1 : Nat) (ws : List Wn) (pt : Int) (lg : Int) (w : World) (hrd : PpIn w da1 dl1 ws)  :
    Calls Try.prog 3 #[.agg #[.int .i64 fr, .int .i64 pa, .slice da1 dl1 dc1], .int .i64 pt, .int .i64 lg] w fun x w' => x = .returned (.bool true) ∧ Below w.heap.size w w' := by
  have Rd := hide hrd
  have smd1 := hrd.r1.small
  have Ed1 := hide hrd.r1.len_eq
  clear hrd
  have hq0 : (ftB fr pa ws pt lg != ftB fr pa ws pt lg) = false := by simp
  have hq1 : (fr != fr) = false := by simp
  have hq2 : (pa != pa) = false := by simp
  have hfl : (ftL fr pa ws pt lg).length ≤ max dl1 41 := ftL_len fr pa ws pt lg (by rw [unhide Ed1]; exact Nat.le_max_left _ _) (Nat.le_max_right _ _)
  go_enter Try.func3, Try.ntmps3
  go_wp2_with fail
  obtain ⟨w1, hw1⟩ : ∃ W, W = (w.alloc (Obj.cells #[.int .i64 fr, .int .i64 pa, .slice da1 dl1 dc1] 24)) := ⟨_, rfl⟩
  rw [← hw1]
  have K : Hid (Below w.heap.size w w1 ∧ Blk w1 w.heap.size [.int .i64 fr, .int .i64 pa, .slice da1 dl1 dc1]) := hide ⟨(by rw [hw1]; exact bel1 _), (by rw [hw1]; exact Blk.new _ _)⟩
  have S0 : Hid (w.heap.size + 1 ≤ w1.heap.size) := hide (by rw [hw1]; simp; try omega)
  clear hw1
  have KEPT : Hid (∀ W u3, (Below w.heap.size w W ∧ Blk W w.heap.size [.int .i64 fr, .int .i64 pa, .slice da1 dl1 dc1]) → Below W.heap.size W u3 → (Below w.heap.size w u3 ∧ Blk u3 w.heap.size [.int .i64 fr, .int .i64 pa, .slice da1 dl1 dc1])) := hide (fun W u3 h b => ⟨h.1.trans (b.mono h.1.size), h.2.below b⟩)
  refine (szPlan17_any _ _ _ _ _ 1048576 _ smd1 (by omega) (by omega)).mono ?_
  rintro x w2 ⟨⟨r1, rfl, hl⟩, b⟩
  have S1 : Hid (w1.heap.size ≤ w2.heap.size) := hide b.size
  have K : Hid (Below w.heap.size w w2 ∧ Blk w2 w.heap.size [.int .i64 fr, .int .i64 pa, .slice da1 dl1 dc1]) := hide ((unhide KEPT) _ _ (unhide K) b)
  clear b
  rcases hl with hl | ⟨hl, hle, hd1⟩
  · go_wp2_with fail
    go_ret
    exact ⟨rfl, (unhide K).1⟩
  have nr1 : ¬ r1 < 0 := by omega
  have mPd0 : w2.cell? ⟨w.heap.size, 0, none⟩ = some (.int .i64 fr) := (unhide K).2.c 0 (by simp)
  have mPd1 : w2.cell? ⟨w.heap.size, 1, none⟩ = some (.int .i64 pa) := (unhide K).2.c 1 (by simp)
  have mPd2 : w2.cell? ⟨w.heap.size, 2, none⟩ = some (.slice da1 dl1 dc1) := (unhide K).2.c 2 (by simp)
  go_wp2_with fail
  clear mPd0 mPd1 mPd2
  refine (toPlan17_own _ _ _ _ _ _ _ ((unhide Rd).below (unhide K).1) hd1).mono ?_
  rintro x w3 ⟨⟨g2, rfl, oc⟩, b⟩
  have LT3 : Hid (PpLies w2.heap.size w3.heap.size (some ⟨g2, 0, none⟩) dl1 dl1) := hide oc.lies
  have S2 : Hid (w2.heap.size ≤ w3.heap.size) := hide b.size
  have K : Hid (Below w.heap.size w w3 ∧ Blk w3 w.heap.size [.int .i64 fr, .int .i64 pa, .slice da1 dl1 dc1]) := hide ((unhide KEPT) _ _ (unhide K) b)
  have K : Hid (Below w.heap.size w w3 ∧ Blk w3 w.heap.size [.int .i64 fr, .int .i64 pa, .slice da1 dl1 dc1] ∧ PpOwn w3 w2.heap.size (some ⟨g2, 0, none⟩) dl1 dl1 ws) := hide ⟨(unhide K).1, (unhide K).2, oc⟩
  clear KEPT oc b
  have KEPT : Hid (∀ W u3, (Below w.heap.size w W ∧ Blk W w.heap.size [.int .i64 fr, .int .i64 pa, .slice da1 dl1 dc1] ∧ PpOwn W w2.heap.size (some ⟨g2, 0, none⟩) dl1 dl1 ws) → Below W.heap.size W u3 → (Below w.heap.size w u3 ∧ Blk u3 w.heap.size [.int .i64 fr, .int .i64 pa, .slice da1 dl1 dc1] ∧ PpOwn u3 w2.heap.size (some ⟨g2, 0, none⟩) dl1 dl1 ws)) := hide (fun W u3 h b => ⟨h.1.trans (b.mono h.1.size), h.2.1.below b, h.2.2.below b⟩)
  have mPd0 : w3.cell? ⟨w.heap.size, 0, none⟩ = some (.int .i64 fr) := (unhide K).2.1.c 0 (by simp)
  have mPd1 : w3.cell? ⟨w.heap.size, 1, none⟩ = some (.int .i64 pa) := (unhide K).2.1.c 1 (by simp)
  have mPd2 : w3.cell? ⟨w.heap.size, 2, none⟩ = some (.slice da1 dl1 dc1) := (unhide K).2.1.c 2 (by simp)
  go_wp2_with fail
  clear mPd0 mPd1 mPd2
  refine (specFitWindow_any _ _ _ _ _ _ _ _ _ (unhide K).2.2.read hd1 ⟨_, rfl⟩ rfl).mono ?_
  rintro x w4 ⟨a3, c4, rfl, oW_0, b⟩
  have LW0 : Hid (PpLies w3.heap.size w4.heap.size a3 ((ftL fr pa ws pt lg).length) c4) := hide oW_0.lies
  have S3 : Hid (w3.heap.size ≤ w4.heap.size) := hide b.size
  have K : Hid (Below w.heap.size w w4 ∧ Blk w4 w.heap.size [.int .i64 fr, .int .i64 pa, .slice da1 dl1 dc1] ∧ PpOwn w4 w2.heap.size (some ⟨g2, 0, none⟩) dl1 dl1 ws) := hide ((unhide KEPT) _ _ (unhide K) b)
  have K : Hid (Below w.heap.size w w4 ∧ Blk w4 w.heap.size [.int .i64 fr, .int .i64 pa, .slice da1 dl1 dc1] ∧ PpOwn w4 w2.heap.size (some ⟨g2, 0, none⟩) dl1 dl1 ws ∧ PpOwn w4 w3.heap.size a3 ((ftL fr pa ws pt lg).length) c4 (ftL fr pa ws pt lg)) := hide ⟨(unhide K).1, (unhide K).2.1, (unhide K).2.2, oW_0⟩
  clear KEPT
  have KEPT : Hid (∀ W u3, (Below w.heap.size w W ∧ Blk W w.heap.size [.int .i64 fr, .int .i64 pa, .slice da1 dl1 dc1] ∧ PpOwn W w2.heap.size (some ⟨g2, 0, none⟩) dl1 dl1 ws ∧ PpOwn W w3.heap.size a3 ((ftL fr pa ws pt lg).length) c4 (ftL fr pa ws pt lg)) → Below W.heap.size W u3 → (Below w.heap.size w u3 ∧ Blk u3 w.heap.size [.int .i64 fr, .int .i64 pa, .slice da1 dl1 dc1] ∧ PpOwn u3 w2.heap.size (some ⟨g2, 0, none⟩) dl1 dl1 ws ∧ PpOwn u3 w3.heap.size a3 ((ftL fr pa ws pt lg).length) c4 (ftL fr pa ws pt lg))) := hide (fun W u3 h b => ⟨h.1.trans (b.mono h.1.size), h.2.1.below b, h.2.2.1.below b, h.2.2.2.below b⟩)
  clear oW_0
  clear b
  have K : Hid (Below w.heap.size w w4 ∧ Blk w4 w.heap.size [.int .i64 fr, .int .i64 pa, .slice da1 dl1 dc1] ∧ PpOwn w4 w3.heap.size a3 ((ftL fr pa ws pt lg).length) c4 (ftL fr pa ws pt lg)) := hide ⟨(unhide K).1, (unhide K).2.1, (unhide K).2.2.2⟩
  clear KEPT
  have KEPT : Hid (∀ W u3, (Below w.heap.size w W ∧ Blk W w.heap.size [.int .i64 fr, .int .i64 pa, .slice da1 dl1 dc1] ∧ PpOwn W w3.heap.size a3 ((ftL fr pa ws pt lg).length) c4 (ftL fr pa ws pt lg)) → Below W.heap.size W u3 → (Below w.heap.size w u3 ∧ Blk u3 w.heap.size [.int .i64 fr, .int .i64 pa, .slice da1 dl1 dc1] ∧ PpOwn u3 w3.heap.size a3 ((ftL fr pa ws pt lg).length) c4 (ftL fr pa ws pt lg))) := hide (fun W u3 h b => ⟨h.1.trans (b.mono h.1.size), h.2.1.below b, h.2.2.below b⟩)
  obtain ⟨w5, hw5⟩ : ∃ V, V = w4.alloc (Obj.cells #[.int .i64 fr, .int .i64 pa, .slice a3 ((ftL fr pa ws pt lg).length) c4] 28) := ⟨_, rfl⟩
  have b : Below w4.heap.size w4 w5 := by rw [hw5]; exact bel1 _
  have kx : Blk w5 w4.heap.size [.int .i64 fr, .int .i64 pa, .slice a3 ((ftL fr pa ws pt lg).length) c4] := by rw [hw5]; exact Blk.new _ _
  have S4 : Hid (w4.heap.size + 1 ≤ w5.heap.size) := hide (by rw [hw5]; simp)
  have S5 : Hid (w4.heap.size ≤ w5.heap.size) := hide b.size
  have K : Hid (Below w.heap.size w w5 ∧ Blk w5 w.heap.size [.int .i64 fr, .int .i64 pa, .slice da1 dl1 dc1] ∧ PpOwn w5 w3.heap.size a3 ((ftL fr pa ws pt lg).length) c4 (ftL fr pa ws pt lg)) := hide ((unhide KEPT) _ _ (unhide K) b)
  have mPd0 : w5.cell? ⟨w.heap.size, 0, none⟩ = some (.int .i64 fr) := (unhide K).2.1.c 0 (by simp)
  have mPd1 : w5.cell? ⟨w.heap.size, 1, none⟩ = some (.int .i64 pa) := (unhide K).2.1.c 1 (by simp)
  have mPd2 : w5.cell? ⟨w.heap.size, 2, none⟩ = some (.slice da1 dl1 dc1) := (unhide K).2.1.c 2 (by simp)
  rw [hw5] at mPd0 mPd1 mPd2
  obtain ⟨X5, hX5⟩ : ∃ X, w4.heap.size = X := ⟨_, rfl⟩
  rw [hX5] at kx
  have S6 : Hid (w4.heap.size = X5) := hide hX5
  have K : Hid (Below w.heap.size w w5 ∧ Blk w5 w.heap.size [.int .i64 fr, .int .i64 pa, .slice da1 dl1 dc1] ∧ PpOwn w5 w3.heap.size a3 ((ftL fr pa ws pt lg).length) c4 (ftL fr pa ws pt lg) ∧ Blk w5 X5 [.int .i64 fr, .int .i64 pa, .slice a3 ((ftL fr pa ws pt lg).length) c4]) := hide ⟨(unhide K).1, (unhide K).2.1, (unhide K).2.2, kx⟩
  clear KEPT b kx
  have KEPT : Hid (∀ W u3, (Below w.heap.size w W ∧ Blk W w.heap.size [.int .i64 fr, .int .i64 pa, .slice da1 dl1 dc1] ∧ PpOwn W w3.heap.size a3 ((ftL fr pa ws pt lg).length) c4 (ftL fr pa ws pt lg) ∧ Blk W X5 [.int .i64 fr, .int .i64 pa, .slice a3 ((ftL fr pa ws pt lg).length) c4]) → Below W.heap.size W u3 → (Below w.heap.size w u3 ∧ Blk u3 w.heap.size [.int .i64 fr, .int .i64 pa, .slice da1 dl1 dc1] ∧ PpOwn u3 w3.heap.size a3 ((ftL fr pa ws pt lg).length) c4 (ftL fr pa ws pt lg) ∧ Blk u3 X5 [.int .i64 fr, .int .i64 pa, .slice a3 ((ftL fr pa ws pt lg).length) c4])) := hide (fun W u3 h b => ⟨h.1.trans (b.mono h.1.size), h.2.1.below b, h.2.2.1.below b, h.2.2.2.below b⟩)
  have Hw5 := hide hw5
  have HX5 := hide hX5
  clear hw5 hX5
  go_wp2_with fail
  try rw [← unhide Hw5]
  try rw [unhide HX5]
  clear Hw5 HX5 mPd0 mPd1 mPd2
  refine (toPlan17_own _ _ _ _ _ _ _ ((unhide Rd).below (unhide K).1) hd1).mono ?_
  rintro x w6 ⟨⟨g6, rfl, oc⟩, b⟩
  have LXx0 : Hid (PpLies w5.heap.size w6.heap.size (some ⟨g6, 0, none⟩) dl1 dl1) := hide oc.lies
  have S7 : Hid (w5.heap.size ≤ w6.heap.size) := hide b.size
  have K : Hid (Below w.heap.size w w6 ∧ Blk w6 w.heap.size [.int .i64 fr, .int .i64 pa, .slice da1 dl1 dc1] ∧ PpOwn w6 w3.heap.size a3 ((ftL fr pa ws pt lg).length) c4 (ftL fr pa ws pt lg) ∧ Blk w6 X5 [.int .i64 fr, .int .i64 pa, .slice a3 ((ftL fr pa ws pt lg).length) c4]) := hide ((unhide KEPT) _ _ (unhide K) b)
  have K : Hid (Below w.heap.size w w6 ∧ Blk w6 w.heap.size [.int .i64 fr, .int .i64 pa, .slice da1 dl1 dc1] ∧ PpOwn w6 w3.heap.size a3 ((ftL fr pa ws pt lg).length) c4 (ftL fr pa ws pt lg) ∧ Blk w6 X5 [.int .i64 fr, .int .i64 pa, .slice a3 ((ftL fr pa ws pt lg).length) c4] ∧ PpOwn w6 w5.heap.size (some ⟨g6, 0, none⟩) dl1 dl1 ws) := hide ⟨(unhide K).1, (unhide K).2.1, (unhide K).2.2.1, (unhide K).2.2.2, oc⟩
  clear KEPT oc b
  have KEPT : Hid (∀ W u3, (Below w.heap.size w W ∧ Blk W w.heap.size [.int .i64 fr, .int .i64 pa, .slice da1 dl1 dc1] ∧ PpOwn W w3.heap.size a3 ((ftL fr pa ws pt lg).length) c4 (ftL fr pa ws pt lg) ∧ Blk W X5 [.int .i64 fr, .int .i64 pa, .slice a3 ((ftL fr pa ws pt lg).length) c4] ∧ PpOwn W w5.heap.size (some ⟨g6, 0, none⟩) dl1 dl1 ws) → Below W.heap.size W u3 → (Below w.heap.size w u3 ∧ Blk u3 w.heap.size [.int .i64 fr, .int .i64 pa, .slice da1 dl1 dc1] ∧ PpOwn u3 w3.heap.size a3 ((ftL fr pa ws pt lg).length) c4 (ftL fr pa ws pt lg) ∧ Blk u3 X5 [.int .i64 fr, .int .i64 pa, .slice a3 ((ftL fr pa ws pt lg).length) c4] ∧ PpOwn u3 w5.heap.size (some ⟨g6, 0, none⟩) dl1 dl1 ws)) := hide (fun W u3 h b => ⟨h.1.trans (b.mono h.1.size), h.2.1.below b, h.2.2.1.below b, h.2.2.2.1.below b, h.2.2.2.2.below b⟩)
  obtain ⟨w7, hw7⟩ : ∃ V, V = w6.alloc (Obj.cells #[.int .i64 fr, .int .i64 pa, .slice (some ⟨g6, 0, none⟩) dl1 dl1] 28) := ⟨_, rfl⟩
  have b : Below w6.heap.size w6 w7 := by rw [hw7]; exact bel1 _
  have kx : Blk w7 w6.heap.size [.int .i64 fr, .int .i64 pa, .slice (some ⟨g6, 0, none⟩) dl1 dl1] := by rw [hw7]; exact Blk.new _ _
  have S8 : Hid (w6.heap.size + 1 ≤ w7.heap.size) := hide (by rw [hw7]; simp)
  have S9 : Hid (w6.heap.size ≤ w7.heap.size) := hide b.size
  have K : Hid (Below w.heap.size w w7 ∧ Blk w7 w.heap.size [.int .i64 fr, .int .i64 pa, .slice da1 dl1 dc1] ∧ PpOwn w7 w3.heap.size a3 ((ftL fr pa ws pt lg).length) c4 (ftL fr pa ws pt lg) ∧ Blk w7 X5 [.int .i64 fr, .int .i64 pa, .slice a3 ((ftL fr pa ws pt lg).length) c4] ∧ PpOwn w7 w5.heap.size (some ⟨g6, 0, none⟩) dl1 dl1 ws) := hide ((unhide KEPT) _ _ (unhide K) b)
  have mPd0 : w7.cell? ⟨w.heap.size, 0, none⟩ = some (.int .i64 fr) := (unhide K).2.1.c 0 (by simp)
  have mPd1 : w7.cell? ⟨w.heap.size, 1, none⟩ = some (.int .i64 pa) := (unhide K).2.1.c 1 (by simp)
  have mPd2 : w7.cell? ⟨w.heap.size, 2, none⟩ = some (.slice da1 dl1 dc1) := (unhide K).2.1.c 2 (by simp)
  have mQW00 : w7.cell? ⟨X5, 0, none⟩ = some (.int .i64 fr) := (unhide K).2.2.2.1.c 0 (by simp)
  have mQW01 : w7.cell? ⟨X5, 1, none⟩ = some (.int .i64 pa) := (unhide K).2.2.2.1.c 1 (by simp)
  have mQW02 : w7.cell? ⟨X5, 2, none⟩ = some (.slice a3 ((ftL fr pa ws pt lg).length) c4) := (unhide K).2.2.2.1.c 2 (by simp)
  rw [hw7] at mPd0 mPd1 mPd2 mQW00 mQW01 mQW02
  obtain ⟨X7, hX7⟩ : ∃ X, w6.heap.size = X := ⟨_, rfl⟩
  rw [hX7] at kx
  have S10 : Hid (w6.heap.size = X7) := hide hX7
  have K : Hid (Below w.heap.size w w7 ∧ Blk w7 w.heap.size [.int .i64 fr, .int .i64 pa, .slice da1 dl1 dc1] ∧ PpOwn w7 w3.heap.size a3 ((ftL fr pa ws pt lg).length) c4 (ftL fr pa ws pt lg) ∧ Blk w7 X5 [.int .i64 fr, .int .i64 pa, .slice a3 ((ftL fr pa ws pt lg).length) c4] ∧ PpOwn w7 w5.heap.size (some ⟨g6, 0, none⟩) dl1 dl1 ws ∧ Blk w7 X7 [.int .i64 fr, .int .i64 pa, .slice (some ⟨g6, 0, none⟩) dl1 dl1]) := hide ⟨(unhide K).1, (unhide K).2.1, (unhide K).2.2.1, (unhide K).2.2.2.1, (unhide K).2.2.2.2, kx⟩
  clear KEPT b kx
  have KEPT : Hid (∀ W u3, (Below w.heap.size w W ∧ Blk W w.heap.size [.int .i64 fr, .int .i64 pa, .slice da1 dl1 dc1] ∧ PpOwn W w3.heap.size a3 ((ftL fr pa ws pt lg).length) c4 (ftL fr pa ws pt lg) ∧ Blk W X5 [.int .i64 fr, .int .i64 pa, .slice a3 ((ftL fr pa ws pt lg).length) c4] ∧ PpOwn W w5.heap.size (some ⟨g6, 0, none⟩) dl1 dl1 ws ∧ Blk W X7 [.int .i64 fr, .int .i64 pa, .slice (some ⟨g6, 0, none⟩) dl1 dl1]) → Below W.heap.size W u3 → (Below w.heap.size w u3 ∧ Blk u3 w.heap.size [.int .i64 fr, .int .i64 pa, .slice da1 dl1 dc1] ∧ PpOwn u3 w3.heap.size a3 ((ftL fr pa ws pt lg).length) c4 (ftL fr pa ws pt lg) ∧ Blk u3 X5 [.int .i64 fr, .int .i64 pa, .slice a3 ((ftL fr pa ws pt lg).length) c4] ∧ PpOwn u3 w5.heap.size (some ⟨g6, 0, none⟩) dl1 dl1 ws ∧ Blk u3 X7 [.int .i64 fr, .int .i64 pa, .slice (some ⟨g6, 0, none⟩) dl1 dl1])) := hide (fun W u3 h b => ⟨h.1.trans (b.mono h.1.size), h.2.1.below b, h.2.2.1.below b, h.2.2.2.1.below b, h.2.2.2.2.1.below b, h.2.2.2.2.2.below b⟩)
  have Hw7 := hide hw7
  have HX7 := hide hX7
  clear hw7 hX7
  go_wp2_with fail
  try rw [← unhide Hw7]
  try rw [unhide HX7]
  clear Hw7 HX7 mPd0 mPd1 mPd2 mQW00 mQW01 mQW02
  refine (implFitWindow_any _ _ _ _ _ _ _ _ _ (unhide K).2.2.2.2.1.read hd1).mono ?_
  rintro x w8 ⟨a8, c9, rfl, oG_0, b⟩
  have LG0 : Hid (PpLies w7.heap.size w8.heap.size a8 ((ftL fr pa ws pt lg).length) c9) := hide oG_0.lies
  have S11 : Hid (w7.heap.size ≤ w8.heap.size) := hide b.size
  have K : Hid (Below w.heap.size w w8 ∧ Blk w8 w.heap.size [.int .i64 fr, .int .i64 pa, .slice da1 dl1 dc1] ∧ PpOwn w8 w3.heap.size a3 ((ftL fr pa ws pt lg).length) c4 (ftL fr pa ws pt lg) ∧ Blk w8 X5 [.int .i64 fr, .int .i64 pa, .slice a3 ((ftL fr pa ws pt lg).length) c4] ∧ PpOwn w8 w5.heap.size (some ⟨g6, 0, none⟩) dl1 dl1 ws ∧ Blk w8 X7 [.int .i64 fr, .int .i64 pa, .slice (some ⟨g6, 0, none⟩) dl1 dl1]) := hide ((unhide KEPT) _ _ (unhide K) b)
  have K : Hid (Below w.heap.size w w8 ∧ Blk w8 w.heap.size [.int .i64 fr, .int .i64 pa, .slice da1 dl1 dc1] ∧ PpOwn w8 w3.heap.size a3 ((ftL fr pa ws pt lg).length) c4 (ftL fr pa ws pt lg) ∧ Blk w8 X5 [.int .i64 fr, .int .i64 pa, .slice a3 ((ftL fr pa ws pt lg).length) c4] ∧ PpOwn w8 w5.heap.size (some ⟨g6, 0, none⟩) dl1 dl1 ws ∧ Blk w8 X7 [.int .i64 fr, .int .i64 pa, .slice (some ⟨g6, 0, none⟩) dl1 dl1] ∧ PpOwn w8 w7.heap.size a8 ((ftL fr pa ws pt lg).length) c9 (ftL fr pa ws pt lg)) := hide ⟨(unhide K).1, (unhide K).2.1, (unhide K).2.2.1, (unhide K).2.2.2.1, (unhide K).2.2.2.2.1, (unhide K).2.2.2.2.2, oG_0⟩
  clear KEPT
  have KEPT : Hid (∀ W u3, (Below w.heap.size w W ∧ Blk W w.heap.size [.int .i64 fr, .int .i64 pa, .slice da1 dl1 dc1] ∧ PpOwn W w3.heap.size a3 ((ftL fr pa ws pt lg).length) c4 (ftL fr pa ws pt lg) ∧ Blk W X5 [.int .i64 fr, .int .i64 pa, .slice a3 ((ftL fr pa ws pt lg).length) c4] ∧ PpOwn W w5.heap.size (some ⟨g6, 0, none⟩) dl1 dl1 ws ∧ Blk W X7 [.int .i64 fr, .int .i64 pa, .slice (some ⟨g6, 0, none⟩) dl1 dl1] ∧ PpOwn W w7.heap.size a8 ((ftL fr pa ws pt lg).length) c9 (ftL fr pa ws pt lg)) → Below W.heap.size W u3 → (Below w.heap.size w u3 ∧ Blk u3 w.heap.size [.int .i64 fr, .int .i64 pa, .slice da1 dl1 dc1] ∧ PpOwn u3 w3.heap.size a3 ((ftL fr pa ws pt lg).length) c4 (ftL fr pa ws pt lg) ∧ Blk u3 X5 [.int .i64 fr, .int .i64 pa, .slice a3 ((ftL fr pa ws pt lg).length) c4] ∧ PpOwn u3 w5.heap.size (some ⟨g6, 0, none⟩) dl1 dl1 ws ∧ Blk u3 X7 [.int .i64 fr, .int .i64 pa, .slice (some ⟨g6, 0, none⟩) dl1 dl1] ∧ PpOwn u3 w7.heap.size a8 ((ftL fr pa ws pt lg).length) c9 (ftL fr pa ws pt lg))) := hide (fun W u3 h b => ⟨h.1.trans (b.mono h.1.size), h.2.1.below b, h.2.2.1.below b, h.2.2.2.1.below b, h.2.2.2.2.1.below b, h.2.2.2.2.2.1.below b, h.2.2.2.2.2.2.below b⟩)
  clear oG_0
  clear b
  obtain ⟨w9, hw9⟩ : ∃ V, V = w8.alloc (Obj.cells #[.int .i64 fr, .int .i64 pa, .slice a8 ((ftL fr pa ws pt lg).length) c9] 28) := ⟨_, rfl⟩
  have b : Below w8.heap.size w8 w9 := by rw [hw9]; exact bel1 _
  have kx : Blk w9 w8.heap.size [.int .i64 fr, .int .i64 pa, .slice a8 ((ftL fr pa ws pt lg).length) c9] := by rw [hw9]; exact Blk.new _ _
  have S12 : Hid (w8.heap.size + 1 ≤ w9.heap.size) := hide (by rw [hw9]; simp)
  have S13 : Hid (w8.heap.size ≤ w9.heap.size) := hide b.size
  have K : Hid (Below w.heap.size w w9 ∧ Blk w9 w.heap.size [.int .i64 fr, .int .i64 pa, .slice da1 dl1 dc1] ∧ PpOwn w9 w3.heap.size a3 ((ftL fr pa ws pt lg).length) c4 (ftL fr pa ws pt lg) ∧ Blk w9 X5 [.int .i64 fr, .int .i64 pa, .slice a3 ((ftL fr pa ws pt lg).length) c4] ∧ PpOwn w9 w5.heap.size (some ⟨g6, 0, none⟩) dl1 dl1 ws ∧ Blk w9 X7 [.int .i64 fr, .int .i64 pa, .slice (some ⟨g6, 0, none⟩) dl1 dl1] ∧ PpOwn w9 w7.heap.size a8 ((ftL fr pa ws pt lg).length) c9 (ftL fr pa ws pt lg)) := hide ((unhide KEPT) _ _ (unhide K) b)
  have mPd0 : w9.cell? ⟨w.heap.size, 0, none⟩ = some (.int .i64 fr) := (unhide K).2.1.c 0 (by simp)
  have mPd1 : w9.cell? ⟨w.heap.size, 1, none⟩ = some (.int .i64 pa) := (unhide K).2.1.c 1 (by simp)
  have mPd2 : w9.cell? ⟨w.heap.size, 2, none⟩ = some (.slice da1 dl1 dc1) := (unhide K).2.1.c 2 (by simp)
  have mQW00 : w9.cell? ⟨X5, 0, none⟩ = some (.int .i64 fr) := (unhide K).2.2.2.1.c 0 (by simp)
  have mQW01 : w9.cell? ⟨X5, 1, none⟩ = some (.int .i64 pa) := (unhide K).2.2.2.1.c 1 (by simp)
  have mQW02 : w9.cell? ⟨X5, 2, none⟩ = some (.slice a3 ((ftL fr pa ws pt lg).length) c4) := (unhide K).2.2.2.1.c 2 (by simp)
  have mQXx00 : w9.cell? ⟨X7, 0, none⟩ = some (.int .i64 fr) := (unhide K).2.2.2.2.2.1.c 0 (by simp)
  have mQXx01 : w9.cell? ⟨X7, 1, none⟩ = some (.int .i64 pa) := (unhide K).2.2.2.2.2.1.c 1 (by simp)
  have mQXx02 : w9.cell? ⟨X7, 2, none⟩ = some (.slice (some ⟨g6, 0, none⟩) dl1 dl1) := (unhide K).2.2.2.2.2.1.c 2 (by simp)
  rw [hw9] at mPd0 mPd1 mPd2 mQW00 mQW01 mQW02 mQXx00 mQXx01 mQXx02
  obtain ⟨X10, hX10⟩ : ∃ X, w8.heap.size = X := ⟨_, rfl⟩
  rw [hX10] at kx
  have S14 : Hid (w8.heap.size = X10) := hide hX10
  have K : Hid (Below w.heap.size w w9 ∧ Blk w9 w.heap.size [.int .i64 fr, .int .i64 pa, .slice da1 dl1 dc1] ∧ PpOwn w9 w3.heap.size a3 ((ftL fr pa ws pt lg).length) c4 (ftL fr pa ws pt lg) ∧ Blk w9 X5 [.int .i64 fr, .int .i64 pa, .slice a3 ((ftL fr pa ws pt lg).length) c4] ∧ PpOwn w9 w5.heap.size (some ⟨g6, 0, none⟩) dl1 dl1 ws ∧ Blk w9 X7 [.int .i64 fr, .int .i64 pa, .slice (some ⟨g6, 0, none⟩) dl1 dl1] ∧ PpOwn w9 w7.heap.size a8 ((ftL fr pa ws pt lg).length) c9 (ftL fr pa ws pt lg) ∧ Blk w9 X10 [.int .i64 fr, .int .i64 pa, .slice a8 ((ftL fr pa ws pt lg).length) c9]) := hide ⟨(unhide K).1, (unhide K).2.1, (unhide K).2.2.1, (unhide K).2.2.2.1, (unhide K).2.2.2.2.1, (unhide K).2.2.2.2.2.1, (unhide K).2.2.2.2.2.2, kx⟩
  clear KEPT b kx
  have KEPT : Hid (∀ W u3, (Below w.heap.size w W ∧ Blk W w.heap.size [.int .i64 fr, .int .i64 pa, .slice da1 dl1 dc1] ∧ PpOwn W w3.heap.size a3 ((ftL fr pa ws pt lg).length) c4 (ftL fr pa ws pt lg) ∧ Blk W X5 [.int .i64 fr, .int .i64 pa, .slice a3 ((ftL fr pa ws pt lg).length) c4] ∧ PpOwn W w5.heap.size (some ⟨g6, 0, none⟩) dl1 dl1 ws ∧ Blk W X7 [.int .i64 fr, .int .i64 pa, .slice (some ⟨g6, 0, none⟩) dl1 dl1] ∧ PpOwn W w7.heap.size a8 ((ftL fr pa ws pt lg).length) c9 (ftL fr pa ws pt lg) ∧ Blk W X10 [.int .i64 fr, .int .i64 pa, .slice a8 ((ftL fr pa ws pt lg).length) c9]) → Below W.heap.size W u3 → (Below w.heap.size w u3 ∧ Blk u3 w.heap.size [.int .i64 fr, .int .i64 pa, .slice da1 dl1 dc1] ∧ PpOwn u3 w3.heap.size a3 ((ftL fr pa ws pt lg).length) c4 (ftL fr pa ws pt lg) ∧ Blk u3 X5 [.int .i64 fr, .int .i64 pa, .slice a3 ((ftL fr pa ws pt lg).length) c4] ∧ PpOwn u3 w5.heap.size (some ⟨g6, 0, none⟩) dl1 dl1 ws ∧ Blk u3 X7 [.int .i64 fr, .int .i64 pa, .slice (some ⟨g6, 0, none⟩) dl1 dl1] ∧ PpOwn u3 w7.heap.size a8 ((ftL fr pa ws pt lg).length) c9 (ftL fr pa ws pt lg) ∧ Blk u3 X10 [.int .i64 fr, .int .i64 pa, .slice a8 ((ftL fr pa ws pt lg).length) c9])) := hide (fun W u3 h b => ⟨h.1.trans (b.mono h.1.size), h.2.1.below b, h.2.2.1.below b, h.2.2.2.1.below b, h.2.2.2.2.1.below b, h.2.2.2.2.2.1.below b, h.2.2.2.2.2.2.1.below b, h.2.2.2.2.2.2.2.below b⟩)
  have Hw9 := hide hw9
  have HX10 := hide hX10
  clear hw9 hX10
  go_wp2_with fail
  try rw [← unhide Hw9]
  try rw [unhide HX10]
  clear Hw9 HX10 mPd0 mPd1 mPd2 mQW00 mQW01 mQW02 mQXx00 mQXx01 mQXx02
  refine (eqPlan17_same _ _ _ _ _ _ _ _ _ (unhide K).2.2.2.2.2.2.1.read (unhide K).2.2.1.read).mono ?_
  rintro x w10 ⟨rfl, b⟩
  have S15 : Hid (w9.heap.size ≤ w10.heap.size) := hide b.size
  have K : Hid (Below w.heap.size w w10 ∧ Blk w10 w.heap.size [.int .i64 fr, .int .i64 pa, .slice da1 dl1 dc1] ∧ PpOwn w10 w3.heap.size a3 ((ftL fr pa ws pt lg).length) c4 (ftL fr pa ws pt lg) ∧ Blk w10 X5 [.int .i64 fr, .int .i64 pa, .slice a3 ((ftL fr pa ws pt lg).length) c4] ∧ PpOwn w10 w5.heap.size (some ⟨g6, 0, none⟩) dl1 dl1 ws ∧ Blk w10 X7 [.int .i64 fr, .int .i64 pa, .slice (some ⟨g6, 0, none⟩) dl1 dl1] ∧ PpOwn w10 w7.heap.size a8 ((ftL fr pa ws pt lg).length) c9 (ftL fr pa ws pt lg) ∧ Blk w10 X10 [.int .i64 fr, .int .i64 pa, .slice a8 ((ftL fr pa ws pt lg).length) c9]) := hide ((unhide KEPT) _ _ (unhide K) b)
  clear b
  have mPd0 : w10.cell? ⟨w.heap.size, 0, none⟩ = some (.int .i64 fr) := (unhide K).2.1.c 0 (by simp)
  have mPd1 : w10.cell? ⟨w.heap.size, 1, none⟩ = some (.int .i64 pa) := (unhide K).2.1.c 1 (by simp)
  have mPd2 : w10.cell? ⟨w.heap.size, 2, none⟩ = some (.slice da1 dl1 dc1) := (unhide K).2.1.c 2 (by simp)
  have mQW00 : w10.cell? ⟨X5, 0, none⟩ = some (.int .i64 fr) := (unhide K).2.2.2.1.c 0 (by simp)
  have mQW01 : w10.cell? ⟨X5, 1, none⟩ = some (.int .i64 pa) := (unhide K).2.2.2.1.c 1 (by simp)
  have mQW02 : w10.cell? ⟨X5, 2, none⟩ = some (.slice a3 ((ftL fr pa ws pt lg).length) c4) := (unhide K).2.2.2.1.c 2 (by simp)
  have mQXx00 : w10.cell? ⟨X7, 0, none⟩ = some (.int .i64 fr) := (unhide K).2.2.2.2.2.1.c 0 (by simp)
  have mQXx01 : w10.cell? ⟨X7, 1, none⟩ = some (.int .i64 pa) := (unhide K).2.2.2.2.2.1.c 1 (by simp)
  have mQXx02 : w10.cell? ⟨X7, 2, none⟩ = some (.slice (some ⟨g6, 0, none⟩) dl1 dl1) := (unhide K).2.2.2.2.2.1.c 2 (by simp)
  have mQG00 : w10.cell? ⟨X10, 0, none⟩ = some (.int .i64 fr) := (unhide K).2.2.2.2.2.2.2.c 0 (by simp)
  have mQG01 : w10.cell? ⟨X10, 1, none⟩ = some (.int .i64 pa) := (unhide K).2.2.2.2.2.2.2.c 1 (by simp)
  have mQG02 : w10.cell? ⟨X10, 2, none⟩ = some (.slice a8 ((ftL fr pa ws pt lg).length) c9) := (unhide K).2.2.2.2.2.2.2.c 2 (by simp)
  go_wp2_with fail
  clear mPd0 mPd1 mPd2 mQW00 mQW01 mQW02 mQXx00 mQXx01 mQXx02 mQG00 mQG01 mQG02
  have mQXx00 : w10.cell? ⟨X7, 0, none⟩ = some (.int .i64 fr) := (unhide K).2.2.2.2.2.1.c 0 (by simp)
  have mQXx01 : w10.cell? ⟨X7, 1, none⟩ = some (.int .i64 pa) := (unhide K).2.2.2.2.2.1.c 1 (by simp)
  have mQXx02 : w10.cell? ⟨X7, 2, none⟩ = some (.slice (some ⟨g6, 0, none⟩) dl1 dl1) := (unhide K).2.2.2.2.2.1.c 2 (by simp)
  have mPd0 : w10.cell? ⟨w.heap.size, 0, none⟩ = some (.int .i64 fr) := (unhide K).2.1.c 0 (by simp)
  have mPd1 : w10.cell? ⟨w.heap.size, 1, none⟩ = some (.int .i64 pa) := (unhide K).2.1.c 1 (by simp)
  have mPd2 : w10.cell? ⟨w.heap.size, 2, none⟩ = some (.slice da1 dl1 dc1) := (unhide K).2.1.c 2 (by simp)
  go_region_held3 (fun w' => w'.cell? ⟨X7, 0, none⟩ = some (.int .i64 fr) ∧ w'.cell? ⟨X7, 1, none⟩ = some (.int .i64 pa) ∧ w'.cell? ⟨X7, 2, none⟩ = some (.slice (some ⟨g6, 0, none⟩) dl1 dl1) ∧ w'.cell? ⟨w.heap.size, 0, none⟩ = some (.int .i64 fr) ∧ w'.cell? ⟨w.heap.size, 1, none⟩ = some (.int .i64 pa) ∧ w'.cell? ⟨w.heap.size, 2, none⟩ = some (.slice da1 dl1 dc1)) (go_keep)
    ((first
      | (go_at_call 6; refine (toPlan17_own _ _ _ _ _ _ _ (by first | exact (unhide Rd).below (unhide K).1 | exact ((unhide Rd).below (unhide K).1).below (bel0d 1)) hd1).mono ?_; rintro x w11 ⟨⟨e11, rfl, oc⟩, b⟩; have IC := hide oc.read; clear oc; have S16 : Hid (w10.heap.size ≤ w11.heap.size) := hide b.size; have K := hide (show Below w.heap.size w w11 ∧ Blk w11 w.heap.size [.int .i64 fr, .int .i64 pa, .slice da1 dl1 dc1] ∧ PpOwn w11 w3.heap.size a3 ((ftL fr pa ws pt lg).length) c4 (ftL fr pa ws pt lg) ∧ Blk w11 X5 [.int .i64 fr, .int .i64 pa, .slice a3 ((ftL fr pa ws pt lg).length) c4] ∧ PpOwn w11 w5.heap.size (some ⟨g6, 0, none⟩) dl1 dl1 ws ∧ Blk w11 X7 [.int .i64 fr, .int .i64 pa, .slice (some ⟨g6, 0, none⟩) dl1 dl1] ∧ PpOwn w11 w7.heap.size a8 ((ftL fr pa ws pt lg).length) c9 (ftL fr pa ws pt lg) ∧ Blk w11 X10 [.int .i64 fr, .int .i64 pa, .slice a8 ((ftL fr pa ws pt lg).length) c9] from by first | exact (unhide KEPT) _ _ (unhide K) b | exact (unhide KEPT) _ _ ((unhide KEPT) _ _ (unhide K) (bel0d 1)) b); clear mQXx00 mQXx01 mQXx02 mPd0 mPd1 mPd2; have mQXx00 : w11.cell? ⟨X7, 0, none⟩ = some (.int .i64 fr) := (unhide K).2.2.2.2.2.1.c 0 (by simp); have mQXx01 : w11.cell? ⟨X7, 1, none⟩ = some (.int .i64 pa) := (unhide K).2.2.2.2.2.1.c 1 (by simp); have mQXx02 : w11.cell? ⟨X7, 2, none⟩ = some (.slice (some ⟨g6, 0, none⟩) dl1 dl1) := (unhide K).2.2.2.2.2.1.c 2 (by simp); have mPd0 : w11.cell? ⟨w.heap.size, 0, none⟩ = some (.int .i64 fr) := (unhide K).2.1.c 0 (by simp); have mPd1 : w11.cell? ⟨w.heap.size, 1, none⟩ = some (.int .i64 pa) := (unhide K).2.1.c 1 (by simp); have mPd2 : w11.cell? ⟨w.heap.size, 2, none⟩ = some (.slice da1 dl1 dc1) := (unhide K).2.1.c 2 (by simp); clear b)
      | (go_at_call 8; refine (eqPlan17_same _ _ _ _ _ _ _ _ _ (by first | exact (unhide K).2.2.2.2.1.read | exact (unhide K).2.2.2.2.1.read.below (bel0d 1)) (by first | exact unhide IC | exact (unhide IC).below (bel0d 1))).mono ?_; rintro x w12 ⟨rfl, b⟩; clear IC; have S17 : Hid (w11.heap.size ≤ w12.heap.size) := hide b.size; have K := hide (show Below w.heap.size w w12 ∧ Blk w12 w.heap.size [.int .i64 fr, .int .i64 pa, .slice da1 dl1 dc1] ∧ PpOwn w12 w3.heap.size a3 ((ftL fr pa ws pt lg).length) c4 (ftL fr pa ws pt lg) ∧ Blk w12 X5 [.int .i64 fr, .int .i64 pa, .slice a3 ((ftL fr pa ws pt lg).length) c4] ∧ PpOwn w12 w5.heap.size (some ⟨g6, 0, none⟩) dl1 dl1 ws ∧ Blk w12 X7 [.int .i64 fr, .int .i64 pa, .slice (some ⟨g6, 0, none⟩) dl1 dl1] ∧ PpOwn w12 w7.heap.size a8 ((ftL fr pa ws pt lg).length) c9 (ftL fr pa ws pt lg) ∧ Blk w12 X10 [.int .i64 fr, .int .i64 pa, .slice a8 ((ftL fr pa ws pt lg).length) c9] from by first | exact (unhide KEPT) _ _ (unhide K) b | exact (unhide KEPT) _ _ ((unhide KEPT) _ _ (unhide K) (bel0d 1)) b); clear mQXx00 mQXx01 mQXx02 mPd0 mPd1 mPd2; have mQXx00 : w12.cell? ⟨X7, 0, none⟩ = some (.int .i64 fr) := (unhide K).2.2.2.2.2.1.c 0 (by simp); have mQXx01 : w12.cell? ⟨X7, 1, none⟩ = some (.int .i64 pa) := (unhide K).2.2.2.2.2.1.c 1 (by simp); have mQXx02 : w12.cell? ⟨X7, 2, none⟩ = some (.slice (some ⟨g6, 0, none⟩) dl1 dl1) := (unhide K).2.2.2.2.2.1.c 2 (by simp); have mPd0 : w12.cell? ⟨w.heap.size, 0, none⟩ = some (.int .i64 fr) := (unhide K).2.1.c 0 (by simp); have mPd1 : w12.cell? ⟨w.heap.size, 1, none⟩ = some (.int .i64 pa) := (unhide K).2.1.c 1 (by simp); have mPd2 : w12.cell? ⟨w.heap.size, 2, none⟩ = some (.slice da1 dl1 dc1) := (unhide K).2.1.c 2 (by simp); clear b)))
  clear mQXx00 mQXx01 mQXx02 mPd0 mPd1 mPd2
  have mPd0 : w12.cell? ⟨w.heap.size, 0, none⟩ = some (.int .i64 fr) := (unhide K).2.1.c 0 (by simp)
  have mPd1 : w12.cell? ⟨w.heap.size, 1, none⟩ = some (.int .i64 pa) := (unhide K).2.1.c 1 (by simp)
  have mPd2 : w12.cell? ⟨w.heap.size, 2, none⟩ = some (.slice da1 dl1 dc1) := (unhide K).2.1.c 2 (by simp)
  have mQW00 : w12.cell? ⟨X5, 0, none⟩ = some (.int .i64 fr) := (unhide K).2.2.2.1.c 0 (by simp)
  have mQW01 : w12.cell? ⟨X5, 1, none⟩ = some (.int .i64 pa) := (unhide K).2.2.2.1.c 1 (by simp)
  have mQW02 : w12.cell? ⟨X5, 2, none⟩ = some (.slice a3 ((ftL fr pa ws pt lg).length) c4) := (unhide K).2.2.2.1.c 2 (by simp)
  have mQXx00 : w12.cell? ⟨X7, 0, none⟩ = some (.int .i64 fr) := (unhide K).2.2.2.2.2.1.c 0 (by simp)
  have mQXx01 : w12.cell? ⟨X7, 1, none⟩ = some (.int .i64 pa) := (unhide K).2.2.2.2.2.1.c 1 (by simp)
  have mQXx02 : w12.cell? ⟨X7, 2, none⟩ = some (.slice (some ⟨g6, 0, none⟩) dl1 dl1) := (unhide K).2.2.2.2.2.1.c 2 (by simp)
  have mQG00 : w12.cell? ⟨X10, 0, none⟩ = some (.int .i64 fr) := (unhide K).2.2.2.2.2.2.2.c 0 (by simp)
  have mQG01 : w12.cell? ⟨X10, 1, none⟩ = some (.int .i64 pa) := (unhide K).2.2.2.2.2.2.2.c 1 (by simp)
  have mQG02 : w12.cell? ⟨X10, 2, none⟩ = some (.slice a8 ((ftL fr pa ws pt lg).length) c9) := (unhide K).2.2.2.2.2.2.2.c 2 (by simp)
  go_wp2_with fail
  clear mPd0 mPd1 mPd2 mQW00 mQW01 mQW02 mQXx00 mQXx01 mQXx02 mQG00 mQG01 mQG02
  refine (markPlan17_own _ _ _ _ _ _ _ 1 _ (unhide K).2.2.2.2.1 (unhide Ed1) (hd1) (by omega) (by omega) _ _ (unhide LXx0) (by have zz := (unhide K).1.size; have s0 := unhide S0; have s1 := unhide S1; have s2 := unhide S2; have s3 := unhide S3; have s4 := unhide S4; have s5 := unhide S5; have s6 := unhide S6; have s7 := unhide S7; have s8 := unhide S8; have s9 := unhide S9; have s10 := unhide S10; have s11 := unhide S11; have s12 := unhide S12; have s13 := unhide S13; have s14 := unhide S14; have s15 := unhide S15; have s16 := unhide S16; have s17 := unhide S17; omega)).mono ?_
  rintro x w13 ⟨rfl, om, on⟩
  have S18 : Hid (w12.heap.size ≤ w13.heap.size) := hide on.size
  have K : Hid (Below w.heap.size w w13 ∧ Blk w13 w.heap.size [.int .i64 fr, .int .i64 pa, .slice da1 dl1 dc1] ∧ PpOwn w13 w3.heap.size a3 ((ftL fr pa ws pt lg).length) c4 (ftL fr pa ws pt lg) ∧ Blk w13 X5 [.int .i64 fr, .int .i64 pa, .slice a3 ((ftL fr pa ws pt lg).length) c4] ∧ Blk w13 X7 [.int .i64 fr, .int .i64 pa, .slice (some ⟨g6, 0, none⟩) dl1 dl1] ∧ PpOwn w13 w7.heap.size a8 ((ftL fr pa ws pt lg).length) c9 (ftL fr pa ws pt lg) ∧ Blk w13 X10 [.int .i64 fr, .int .i64 pa, .slice a8 ((ftL fr pa ws pt lg).length) c9]) := hide ⟨below_only (unhide K).1 on (by have s0 := unhide S0; have s1 := unhide S1; have s2 := unhide S2; have s3 := unhide S3; have s4 := unhide S4; have s5 := unhide S5; have s6 := unhide S6; have s7 := unhide S7; have s8 := unhide S8; have s9 := unhide S9; have s10 := unhide S10; have s11 := unhide S11; have s12 := unhide S12; have s13 := unhide S13; have s14 := unhide S14; have s15 := unhide S15; have s16 := unhide S16; have s17 := unhide S17; have s18 := unhide S18; omega) (Nat.le_refl _), (unhide K).2.1.only on (by have s0 := unhide S0; have s1 := unhide S1; have s2 := unhide S2; have s3 := unhide S3; have s4 := unhide S4; have s5 := unhide S5; have s6 := unhide S6; have s7 := unhide S7; have s8 := unhide S8; have s9 := unhide S9; have s10 := unhide S10; have s11 := unhide S11; have s12 := unhide S12; have s13 := unhide S13; have s14 := unhide S14; have s15 := unhide S15; have s16 := unhide S16; have s17 := unhide S17; have s18 := unhide S18; omega), (unhide K).2.2.1.only on (unhide LW0) (by have s0 := unhide S0; have s1 := unhide S1; have s2 := unhide S2; have s3 := unhide S3; have s4 := unhide S4; have s5 := unhide S5; have s6 := unhide S6; have s7 := unhide S7; have s8 := unhide S8; have s9 := unhide S9; have s10 := unhide S10; have s11 := unhide S11; have s12 := unhide S12; have s13 := unhide S13; have s14 := unhide S14; have s15 := unhide S15; have s16 := unhide S16; have s17 := unhide S17; have s18 := unhide S18; omega), (unhide K).2.2.2.1.only on (by have s0 := unhide S0; have s1 := unhide S1; have s2 := unhide S2; have s3 := unhide S3; have s4 := unhide S4; have s5 := unhide S5; have s6 := unhide S6; have s7 := unhide S7; have s8 := unhide S8; have s9 := unhide S9; have s10 := unhide S10; have s11 := unhide S11; have s12 := unhide S12; have s13 := unhide S13; have s14 := unhide S14; have s15 := unhide S15; have s16 := unhide S16; have s17 := unhide S17; have s18 := unhide S18; omega), (unhide K).2.2.2.2.2.1.only on (by have s0 := unhide S0; have s1 := unhide S1; have s2 := unhide S2; have s3 := unhide S3; have s4 := unhide S4; have s5 := unhide S5; have s6 := unhide S6; have s7 := unhide S7; have s8 := unhide S8; have s9 := unhide S9; have s10 := unhide S10; have s11 := unhide S11; have s12 := unhide S12; have s13 := unhide S13; have s14 := unhide S14; have s15 := unhide S15; have s16 := unhide S16; have s17 := unhide S17; have s18 := unhide S18; omega), (unhide K).2.2.2.2.2.2.1.only on (unhide LG0) (by have s0 := unhide S0; have s1 := unhide S1; have s2 := unhide S2; have s3 := unhide S3; have s4 := unhide S4; have s5 := unhide S5; have s6 := unhide S6; have s7 := unhide S7; have s8 := unhide S8; have s9 := unhide S9; have s10 := unhide S10; have s11 := unhide S11; have s12 := unhide S12; have s13 := unhide S13; have s14 := unhide S14; have s15 := unhide S15; have s16 := unhide S16; have s17 := unhide S17; have s18 := unhide S18; omega), (unhide K).2.2.2.2.2.2.2.only on (by have s0 := unhide S0; have s1 := unhide S1; have s2 := unhide S2; have s3 := unhide S3; have s4 := unhide S4; have s5 := unhide S5; have s6 := unhide S6; have s7 := unhide S7; have s8 := unhide S8; have s9 := unhide S9; have s10 := unhide S10; have s11 := unhide S11; have s12 := unhide S12; have s13 := unhide S13; have s14 := unhide S14; have s15 := unhide S15; have s16 := unhide S16; have s17 := unhide S17; have s18 := unhide S18; omega)⟩
  clear KEPT om on
  have KEPT : Hid (∀ W u3, (Below w.heap.size w W ∧ Blk W w.heap.size [.int .i64 fr, .int .i64 pa, .slice da1 dl1 dc1] ∧ PpOwn W w3.heap.size a3 ((ftL fr pa ws pt lg).length) c4 (ftL fr pa ws pt lg) ∧ Blk W X5 [.int .i64 fr, .int .i64 pa, .slice a3 ((ftL fr pa ws pt lg).length) c4] ∧ Blk W X7 [.int .i64 fr, .int .i64 pa, .slice (some ⟨g6, 0, none⟩) dl1 dl1] ∧ PpOwn W w7.heap.size a8 ((ftL fr pa ws pt lg).length) c9 (ftL fr pa ws pt lg) ∧ Blk W X10 [.int .i64 fr, .int .i64 pa, .slice a8 ((ftL fr pa ws pt lg).length) c9]) → Below W.heap.size W u3 → (Below w.heap.size w u3 ∧ Blk u3 w.heap.size [.int .i64 fr, .int .i64 pa, .slice da1 dl1 dc1] ∧ PpOwn u3 w3.heap.size a3 ((ftL fr pa ws pt lg).length) c4 (ftL fr pa ws pt lg) ∧ Blk u3 X5 [.int .i64 fr, .int .i64 pa, .slice a3 ((ftL fr pa ws pt lg).length) c4] ∧ Blk u3 X7 [.int .i64 fr, .int .i64 pa, .slice (some ⟨g6, 0, none⟩) dl1 dl1] ∧ PpOwn u3 w7.heap.size a8 ((ftL fr pa ws pt lg).length) c9 (ftL fr pa ws pt lg) ∧ Blk u3 X10 [.int .i64 fr, .int .i64 pa, .slice a8 ((ftL fr pa ws pt lg).length) c9])) := hide (fun W u3 h b => ⟨h.1.trans (b.mono h.1.size), h.2.1.below b, h.2.2.1.below b, h.2.2.2.1.below b, h.2.2.2.2.1.below b, h.2.2.2.2.2.1.below b, h.2.2.2.2.2.2.below b⟩)
  have nk13 : ¬ (1 + 3 * (dl1 : Int) < 0) := by omega
  have mPd0 : w13.cell? ⟨w.heap.size, 0, none⟩ = some (.int .i64 fr) := (unhide K).2.1.c 0 (by simp)
  have mPd1 : w13.cell? ⟨w.heap.size, 1, none⟩ = some (.int .i64 pa) := (unhide K).2.1.c 1 (by simp)
  have mPd2 : w13.cell? ⟨w.heap.size, 2, none⟩ = some (.slice da1 dl1 dc1) := (unhide K).2.1.c 2 (by simp)
  have mQW00 : w13.cell? ⟨X5, 0, none⟩ = some (.int .i64 fr) := (unhide K).2.2.2.1.c 0 (by simp)
  have mQW01 : w13.cell? ⟨X5, 1, none⟩ = some (.int .i64 pa) := (unhide K).2.2.2.1.c 1 (by simp)
  have mQW02 : w13.cell? ⟨X5, 2, none⟩ = some (.slice a3 ((ftL fr pa ws pt lg).length) c4) := (unhide K).2.2.2.1.c 2 (by simp)
  have mQXx00 : w13.cell? ⟨X7, 0, none⟩ = some (.int .i64 fr) := (unhide K).2.2.2.2.1.c 0 (by simp)
  have mQXx01 : w13.cell? ⟨X7, 1, none⟩ = some (.int .i64 pa) := (unhide K).2.2.2.2.1.c 1 (by simp)
  have mQXx02 : w13.cell? ⟨X7, 2, none⟩ = some (.slice (some ⟨g6, 0, none⟩) dl1 dl1) := (unhide K).2.2.2.2.1.c 2 (by simp)
  have mQG00 : w13.cell? ⟨X10, 0, none⟩ = some (.int .i64 fr) := (unhide K).2.2.2.2.2.2.c 0 (by simp)
  have mQG01 : w13.cell? ⟨X10, 1, none⟩ = some (.int .i64 pa) := (unhide K).2.2.2.2.2.2.c 1 (by simp)
  have mQG02 : w13.cell? ⟨X10, 2, none⟩ = some (.slice a8 ((ftL fr pa ws pt lg).length) c9) := (unhide K).2.2.2.2.2.2.c 2 (by simp)
  go_wp2_with fail
  clear mPd0 mPd1 mPd2 mQW00 mQW01 mQW02 mQXx00 mQXx01 mQXx02 mQG00 mQG01 mQG02
  refine (eqPlan17_same _ _ _ _ _ _ _ _ _ (unhide K).2.2.2.2.2.1.read (unhide K).2.2.1.read).mono ?_
  rintro x w14 ⟨rfl, b⟩
  have S19 : Hid (w13.heap.size ≤ w14.heap.size) := hide b.size
  have K : Hid (Below w.heap.size w w14 ∧ Blk w14 w.heap.size [.int .i64 fr, .int .i64 pa, .slice da1 dl1 dc1] ∧ PpOwn w14 w3.heap.size a3 ((ftL fr pa ws pt lg).length) c4 (ftL fr pa ws pt lg) ∧ Blk w14 X5 [.int .i64 fr, .int .i64 pa, .slice a3 ((ftL fr pa ws pt lg).length) c4] ∧ Blk w14 X7 [.int .i64 fr, .int .i64 pa, .slice (some ⟨g6, 0, none⟩) dl1 dl1] ∧ PpOwn w14 w7.heap.size a8 ((ftL fr pa ws pt lg).length) c9 (ftL fr pa ws pt lg) ∧ Blk w14 X10 [.int .i64 fr, .int .i64 pa, .slice a8 ((ftL fr pa ws pt lg).length) c9]) := hide ((unhide KEPT) _ _ (unhide K) b)
  clear b
  have mPd0 : w14.cell? ⟨w.heap.size, 0, none⟩ = some (.int .i64 fr) := (unhide K).2.1.c 0 (by simp)
  have mPd1 : w14.cell? ⟨w.heap.size, 1, none⟩ = some (.int .i64 pa) := (unhide K).2.1.c 1 (by simp)
  have mPd2 : w14.cell? ⟨w.heap.size, 2, none⟩ = some (.slice da1 dl1 dc1) := (unhide K).2.1.c 2 (by simp)
  have mQW00 : w14.cell? ⟨X5, 0, none⟩ = some (.int .i64 fr) := (unhide K).2.2.2.1.c 0 (by simp)
  have mQW01 : w14.cell? ⟨X5, 1, none⟩ = some (.int .i64 pa) := (unhide K).2.2.2.1.c 1 (by simp)
  have mQW02 : w14.cell? ⟨X5, 2, none⟩ = some (.slice a3 ((ftL fr pa ws pt lg).length) c4) := (unhide K).2.2.2.1.c 2 (by simp)
  have mQXx00 : w14.cell? ⟨X7, 0, none⟩ = some (.int .i64 fr) := (unhide K).2.2.2.2.1.c 0 (by simp)
  have mQXx01 : w14.cell? ⟨X7, 1, none⟩ = some (.int .i64 pa) := (unhide K).2.2.2.2.1.c 1 (by simp)
  have mQXx02 : w14.cell? ⟨X7, 2, none⟩ = some (.slice (some ⟨g6, 0, none⟩) dl1 dl1) := (unhide K).2.2.2.2.1.c 2 (by simp)
  have mQG00 : w14.cell? ⟨X10, 0, none⟩ = some (.int .i64 fr) := (unhide K).2.2.2.2.2.2.c 0 (by simp)
  have mQG01 : w14.cell? ⟨X10, 1, none⟩ = some (.int .i64 pa) := (unhide K).2.2.2.2.2.2.c 1 (by simp)
  have mQG02 : w14.cell? ⟨X10, 2, none⟩ = some (.slice a8 ((ftL fr pa ws pt lg).length) c9) := (unhide K).2.2.2.2.2.2.c 2 (by simp)
  go_wp2_with fail
  clear mPd0 mPd1 mPd2 mQW00 mQW01 mQW02 mQXx00 mQXx01 mQXx02 mQG00 mQG01 mQG02
  refine (markPlan17_own _ _ _ _ _ _ _ 1 _ (unhide K).2.2.2.2.2.1 (rfl) (by have := hfl; omega) (by omega) (by omega) _ _ (unhide LG0) (by have zz := (unhide K).1.size; have s0 := unhide S0; have s1 := unhide S1; have s2 := unhide S2; have s3 := unhide S3; have s4 := unhide S4; have s5 := unhide S5; have s6 := unhide S6; have s7 := unhide S7; have s8 := unhide S8; have s9 := unhide S9; have s10 := unhide S10; have s11 := unhide S11; have s12 := unhide S12; have s13 := unhide S13; have s14 := unhide S14; have s15 := unhide S15; have s16 := unhide S16; have s17 := unhide S17; have s18 := unhide S18; have s19 := unhide S19; omega)).mono ?_
  rintro x w15 ⟨rfl, om, on⟩
  have S20 : Hid (w14.heap.size ≤ w15.heap.size) := hide on.size
  have K : Hid (Below w.heap.size w w15 ∧ Blk w15 w.heap.size [.int .i64 fr, .int .i64 pa, .slice da1 dl1 dc1] ∧ PpOwn w15 w3.heap.size a3 ((ftL fr pa ws pt lg).length) c4 (ftL fr pa ws pt lg) ∧ Blk w15 X5 [.int .i64 fr, .int .i64 pa, .slice a3 ((ftL fr pa ws pt lg).length) c4] ∧ Blk w15 X7 [.int .i64 fr, .int .i64 pa, .slice (some ⟨g6, 0, none⟩) dl1 dl1] ∧ PpOwn w15 w7.heap.size a8 ((ftL fr pa ws pt lg).length) c9 (markL mkWn 3 (ftL fr pa ws pt lg) 1 ((ftL fr pa ws pt lg).length)) ∧ Blk w15 X10 [.int .i64 fr, .int .i64 pa, .slice a8 ((ftL fr pa ws pt lg).length) c9]) := hide ⟨below_only (unhide K).1 on (by have s0 := unhide S0; have s1 := unhide S1; have s2 := unhide S2; have s3 := unhide S3; have s4 := unhide S4; have s5 := unhide S5; have s6 := unhide S6; have s7 := unhide S7; have s8 := unhide S8; have s9 := unhide S9; have s10 := unhide S10; have s11 := unhide S11; have s12 := unhide S12; have s13 := unhide S13; have s14 := unhide S14; have s15 := unhide S15; have s16 := unhide S16; have s17 := unhide S17; have s18 := unhide S18; have s19 := unhide S19; have s20 := unhide S20; omega) (Nat.le_refl _), (unhide K).2.1.only on (by have s0 := unhide S0; have s1 := unhide S1; have s2 := unhide S2; have s3 := unhide S3; have s4 := unhide S4; have s5 := unhide S5; have s6 := unhide S6; have s7 := unhide S7; have s8 := unhide S8; have s9 := unhide S9; have s10 := unhide S10; have s11 := unhide S11; have s12 := unhide S12; have s13 := unhide S13; have s14 := unhide S14; have s15 := unhide S15; have s16 := unhide S16; have s17 := unhide S17; have s18 := unhide S18; have s19 := unhide S19; have s20 := unhide S20; omega), (unhide K).2.2.1.only on (unhide LW0) (by have s0 := unhide S0; have s1 := unhide S1; have s2 := unhide S2; have s3 := unhide S3; have s4 := unhide S4; have s5 := unhide S5; have s6 := unhide S6; have s7 := unhide S7; have s8 := unhide S8; have s9 := unhide S9; have s10 := unhide S10; have s11 := unhide S11; have s12 := unhide S12; have s13 := unhide S13; have s14 := unhide S14; have s15 := unhide S15; have s16 := unhide S16; have s17 := unhide S17; have s18 := unhide S18; have s19 := unhide S19; have s20 := unhide S20; omega), (unhide K).2.2.2.1.only on (by have s0 := unhide S0; have s1 := unhide S1; have s2 := unhide S2; have s3 := unhide S3; have s4 := unhide S4; have s5 := unhide S5; have s6 := unhide S6; have s7 := unhide S7; have s8 := unhide S8; have s9 := unhide S9; have s10 := unhide S10; have s11 := unhide S11; have s12 := unhide S12; have s13 := unhide S13; have s14 := unhide S14; have s15 := unhide S15; have s16 := unhide S16; have s17 := unhide S17; have s18 := unhide S18; have s19 := unhide S19; have s20 := unhide S20; omega), (unhide K).2.2.2.2.1.only on (by have s0 := unhide S0; have s1 := unhide S1; have s2 := unhide S2; have s3 := unhide S3; have s4 := unhide S4; have s5 := unhide S5; have s6 := unhide S6; have s7 := unhide S7; have s8 := unhide S8; have s9 := unhide S9; have s10 := unhide S10; have s11 := unhide S11; have s12 := unhide S12; have s13 := unhide S13; have s14 := unhide S14; have s15 := unhide S15; have s16 := unhide S16; have s17 := unhide S17; have s18 := unhide S18; have s19 := unhide S19; have s20 := unhide S20; omega), om, (unhide K).2.2.2.2.2.2.only on (by have s0 := unhide S0; have s1 := unhide S1; have s2 := unhide S2; have s3 := unhide S3; have s4 := unhide S4; have s5 := unhide S5; have s6 := unhide S6; have s7 := unhide S7; have s8 := unhide S8; have s9 := unhide S9; have s10 := unhide S10; have s11 := unhide S11; have s12 := unhide S12; have s13 := unhide S13; have s14 := unhide S14; have s15 := unhide S15; have s16 := unhide S16; have s17 := unhide S17; have s18 := unhide S18; have s19 := unhide S19; have s20 := unhide S20; omega)⟩
  clear KEPT om on
  have KEPT : Hid (∀ W u3, (Below w.heap.size w W ∧ Blk W w.heap.size [.int .i64 fr, .int .i64 pa, .slice da1 dl1 dc1] ∧ PpOwn W w3.heap.size a3 ((ftL fr pa ws pt lg).length) c4 (ftL fr pa ws pt lg) ∧ Blk W X5 [.int .i64 fr, .int .i64 pa, .slice a3 ((ftL fr pa ws pt lg).length) c4] ∧ Blk W X7 [.int .i64 fr, .int .i64 pa, .slice (some ⟨g6, 0, none⟩) dl1 dl1] ∧ PpOwn W w7.heap.size a8 ((ftL fr pa ws pt lg).length) c9 (markL mkWn 3 (ftL fr pa ws pt lg) 1 ((ftL fr pa ws pt lg).length)) ∧ Blk W X10 [.int .i64 fr, .int .i64 pa, .slice a8 ((ftL fr pa ws pt lg).length) c9]) → Below W.heap.size W u3 → (Below w.heap.size w u3 ∧ Blk u3 w.heap.size [.int .i64 fr, .int .i64 pa, .slice da1 dl1 dc1] ∧ PpOwn u3 w3.heap.size a3 ((ftL fr pa ws pt lg).length) c4 (ftL fr pa ws pt lg) ∧ Blk u3 X5 [.int .i64 fr, .int .i64 pa, .slice a3 ((ftL fr pa ws pt lg).length) c4] ∧ Blk u3 X7 [.int .i64 fr, .int .i64 pa, .slice (some ⟨g6, 0, none⟩) dl1 dl1] ∧ PpOwn u3 w7.heap.size a8 ((ftL fr pa ws pt lg).length) c9 (markL mkWn 3 (ftL fr pa ws pt lg) 1 ((ftL fr pa ws pt lg).length)) ∧ Blk u3 X10 [.int .i64 fr, .int .i64 pa, .slice a8 ((ftL fr pa ws pt lg).length) c9])) := hide (fun W u3 h b => ⟨h.1.trans (b.mono h.1.size), h.2.1.below b, h.2.2.1.below b, h.2.2.2.1.below b, h.2.2.2.2.1.below b, h.2.2.2.2.2.1.below b, h.2.2.2.2.2.2.below b⟩)
  have mPd0 : w15.cell? ⟨w.heap.size, 0, none⟩ = some (.int .i64 fr) := (unhide K).2.1.c 0 (by simp)
  have mPd1 : w15.cell? ⟨w.heap.size, 1, none⟩ = some (.int .i64 pa) := (unhide K).2.1.c 1 (by simp)
  have mPd2 : w15.cell? ⟨w.heap.size, 2, none⟩ = some (.slice da1 dl1 dc1) := (unhide K).2.1.c 2 (by simp)
  have mQW00 : w15.cell? ⟨X5, 0, none⟩ = some (.int .i64 fr) := (unhide K).2.2.2.1.c 0 (by simp)
  have mQW01 : w15.cell? ⟨X5, 1, none⟩ = some (.int .i64 pa) := (unhide K).2.2.2.1.c 1 (by simp)
  have mQW02 : w15.cell? ⟨X5, 2, none⟩ = some (.slice a3 ((ftL fr pa ws pt lg).length) c4) := (unhide K).2.2.2.1.c 2 (by simp)
  have mQXx00 : w15.cell? ⟨X7, 0, none⟩ = some (.int .i64 fr) := (unhide K).2.2.2.2.1.c 0 (by simp)
  have mQXx01 : w15.cell? ⟨X7, 1, none⟩ = some (.int .i64 pa) := (unhide K).2.2.2.2.1.c 1 (by simp)
  have mQXx02 : w15.cell? ⟨X7, 2, none⟩ = some (.slice (some ⟨g6, 0, none⟩) dl1 dl1) := (unhide K).2.2.2.2.1.c 2 (by simp)
  have mQG00 : w15.cell? ⟨X10, 0, none⟩ = some (.int .i64 fr) := (unhide K).2.2.2.2.2.2.c 0 (by simp)
  have mQG01 : w15.cell? ⟨X10, 1, none⟩ = some (.int .i64 pa) := (unhide K).2.2.2.2.2.2.c 1 (by simp)
  have mQG02 : w15.cell? ⟨X10, 2, none⟩ = some (.slice a8 ((ftL fr pa ws pt lg).length) c9) := (unhide K).2.2.2.2.2.2.c 2 (by simp)
  go_wp2_with fail
  clear mPd0 mPd1 mPd2 mQW00 mQW01 mQW02 mQXx00 mQXx01 mQXx02 mQG00 mQG01 mQG02
  refine (heldPlan17_any _ _ _ _ _ _ _ 1 _ (unhide K).2.2.2.2.2.1 (rfl) (by have := hfl; omega) (by omega) (by omega)).mono ?_
  rintro x w16 ⟨rfl, b⟩
  have S21 : Hid (w15.heap.size ≤ w16.heap.size) := hide b.size
  have K : Hid (Below w.heap.size w w16 ∧ Blk w16 w.heap.size [.int .i64 fr, .int .i64 pa, .slice da1 dl1 dc1] ∧ PpOwn w16 w3.heap.size a3 ((ftL fr pa ws pt lg).length) c4 (ftL fr pa ws pt lg) ∧ Blk w16 X5 [.int .i64 fr, .int .i64 pa, .slice a3 ((ftL fr pa ws pt lg).length) c4] ∧ Blk w16 X7 [.int .i64 fr, .int .i64 pa, .slice (some ⟨g6, 0, none⟩) dl1 dl1] ∧ PpOwn w16 w7.heap.size a8 ((ftL fr pa ws pt lg).length) c9 (markL mkWn 3 (ftL fr pa ws pt lg) 1 ((ftL fr pa ws pt lg).length)) ∧ Blk w16 X10 [.int .i64 fr, .int .i64 pa, .slice a8 ((ftL fr pa ws pt lg).length) c9]) := hide ((unhide KEPT) _ _ (unhide K) b)
  clear b
  have nq16 : ¬ (1 + 3 * ((ftL fr pa ws pt lg).length : Int) < 0) := by omega
  have nn16 : (1 + 3 * ((ftL fr pa ws pt lg).length : Int) != 1 + 3 * ((ftL fr pa ws pt lg).length : Int)) = false := by simp
  have mPd0 : w16.cell? ⟨w.heap.size, 0, none⟩ = some (.int .i64 fr) := (unhide K).2.1.c 0 (by simp)
  have mPd1 : w16.cell? ⟨w.heap.size, 1, none⟩ = some (.int .i64 pa) := (unhide K).2.1.c 1 (by simp)
  have mPd2 : w16.cell? ⟨w.heap.size, 2, none⟩ = some (.slice da1 dl1 dc1) := (unhide K).2.1.c 2 (by simp)
  have mQW00 : w16.cell? ⟨X5, 0, none⟩ = some (.int .i64 fr) := (unhide K).2.2.2.1.c 0 (by simp)
  have mQW01 : w16.cell? ⟨X5, 1, none⟩ = some (.int .i64 pa) := (unhide K).2.2.2.1.c 1 (by simp)
  have mQW02 : w16.cell? ⟨X5, 2, none⟩ = some (.slice a3 ((ftL fr pa ws pt lg).length) c4) := (unhide K).2.2.2.1.c 2 (by simp)
  have mQXx00 : w16.cell? ⟨X7, 0, none⟩ = some (.int .i64 fr) := (unhide K).2.2.2.2.1.c 0 (by simp)
  have mQXx01 : w16.cell? ⟨X7, 1, none⟩ = some (.int .i64 pa) := (unhide K).2.2.2.2.1.c 1 (by simp)
  have mQXx02 : w16.cell? ⟨X7, 2, none⟩ = some (.slice (some ⟨g6, 0, none⟩) dl1 dl1) := (unhide K).2.2.2.2.1.c 2 (by simp)
  have mQG00 : w16.cell? ⟨X10, 0, none⟩ = some (.int .i64 fr) := (unhide K).2.2.2.2.2.2.c 0 (by simp)
  have mQG01 : w16.cell? ⟨X10, 1, none⟩ = some (.int .i64 pa) := (unhide K).2.2.2.2.2.2.c 1 (by simp)
  have mQG02 : w16.cell? ⟨X10, 2, none⟩ = some (.slice a8 ((ftL fr pa ws pt lg).length) c9) := (unhide K).2.2.2.2.2.2.c 2 (by simp)
  go_wp2_with fail
  clear mPd0 mPd1 mPd2 mQW00 mQW01 mQW02 mQXx00 mQXx01 mQXx02 mQG00 mQG01 mQG02
  refine (toPlan17_own _ _ _ _ _ _ _ ((unhide Rd).below (unhide K).1) hd1).mono ?_
  rintro x w17 ⟨⟨g12, rfl, oc⟩, b⟩
  have LT17 : Hid (PpLies w16.heap.size w17.heap.size (some ⟨g12, 0, none⟩) dl1 dl1) := hide oc.lies
  have S22 : Hid (w16.heap.size ≤ w17.heap.size) := hide b.size
  have K : Hid (Below w.heap.size w w17 ∧ Blk w17 w.heap.size [.int .i64 fr, .int .i64 pa, .slice da1 dl1 dc1] ∧ PpOwn w17 w3.heap.size a3 ((ftL fr pa ws pt lg).length) c4 (ftL fr pa ws pt lg) ∧ Blk w17 X5 [.int .i64 fr, .int .i64 pa, .slice a3 ((ftL fr pa ws pt lg).length) c4] ∧ Blk w17 X7 [.int .i64 fr, .int .i64 pa, .slice (some ⟨g6, 0, none⟩) dl1 dl1] ∧ PpOwn w17 w7.heap.size a8 ((ftL fr pa ws pt lg).length) c9 (markL mkWn 3 (ftL fr pa ws pt lg) 1 ((ftL fr pa ws pt lg).length)) ∧ Blk w17 X10 [.int .i64 fr, .int .i64 pa, .slice a8 ((ftL fr pa ws pt lg).length) c9]) := hide ((unhide KEPT) _ _ (unhide K) b)
  have K : Hid (Below w.heap.size w w17 ∧ Blk w17 w.heap.size [.int .i64 fr, .int .i64 pa, .slice da1 dl1 dc1] ∧ PpOwn w17 w3.heap.size a3 ((ftL fr pa ws pt lg).length) c4 (ftL fr pa ws pt lg) ∧ Blk w17 X5 [.int .i64 fr, .int .i64 pa, .slice a3 ((ftL fr pa ws pt lg).length) c4] ∧ Blk w17 X7 [.int .i64 fr, .int .i64 pa, .slice (some ⟨g6, 0, none⟩) dl1 dl1] ∧ PpOwn w17 w7.heap.size a8 ((ftL fr pa ws pt lg).length) c9 (markL mkWn 3 (ftL fr pa ws pt lg) 1 ((ftL fr pa ws pt lg).length)) ∧ Blk w17 X10 [.int .i64 fr, .int .i64 pa, .slice a8 ((ftL fr pa ws pt lg).length) c9] ∧ PpOwn w17 w16.heap.size (some ⟨g12, 0, none⟩) dl1 dl1 ws) := hide ⟨(unhide K).1, (unhide K).2.1, (unhide K).2.2.1, (unhide K).2.2.2.1, (unhide K).2.2.2.2.1, (unhide K).2.2.2.2.2.1, (unhide K).2.2.2.2.2.2, oc⟩
  clear KEPT oc b
  have KEPT : Hid (∀ W u3, (Below w.heap.size w W ∧ Blk W w.heap.size [.int .i64 fr, .int .i64 pa, .slice da1 dl1 dc1] ∧ PpOwn W w3.heap.size a3 ((ftL fr pa ws pt lg).length) c4 (ftL fr pa ws pt lg) ∧ Blk W X5 [.int .i64 fr, .int .i64 pa, .slice a3 ((ftL fr pa ws pt lg).length) c4] ∧ Blk W X7 [.int .i64 fr, .int .i64 pa, .slice (some ⟨g6, 0, none⟩) dl1 dl1] ∧ PpOwn W w7.heap.size a8 ((ftL fr pa ws pt lg).length) c9 (markL mkWn 3 (ftL fr pa ws pt lg) 1 ((ftL fr pa ws pt lg).length)) ∧ Blk W X10 [.int .i64 fr, .int .i64 pa, .slice a8 ((ftL fr pa ws pt lg).length) c9] ∧ PpOwn W w16.heap.size (some ⟨g12, 0, none⟩) dl1 dl1 ws) → Below W.heap.size W u3 → (Below w.heap.size w u3 ∧ Blk u3 w.heap.size [.int .i64 fr, .int .i64 pa, .slice da1 dl1 dc1] ∧ PpOwn u3 w3.heap.size a3 ((ftL fr pa ws pt lg).length) c4 (ftL fr pa ws pt lg) ∧ Blk u3 X5 [.int .i64 fr, .int .i64 pa, .slice a3 ((ftL fr pa ws pt lg).length) c4] ∧ Blk u3 X7 [.int .i64 fr, .int .i64 pa, .slice (some ⟨g6, 0, none⟩) dl1 dl1] ∧ PpOwn u3 w7.heap.size a8 ((ftL fr pa ws pt lg).length) c9 (markL mkWn 3 (ftL fr pa ws pt lg) 1 ((ftL fr pa ws pt lg).length)) ∧ Blk u3 X10 [.int .i64 fr, .int .i64 pa, .slice a8 ((ftL fr pa ws pt lg).length) c9] ∧ PpOwn u3 w16.heap.size (some ⟨g12, 0, none⟩) dl1 dl1 ws)) := hide (fun W u3 h b => ⟨h.1.trans (b.mono h.1.size), h.2.1.below b, h.2.2.1.below b, h.2.2.2.1.below b, h.2.2.2.2.1.below b, h.2.2.2.2.2.1.below b, h.2.2.2.2.2.2.1.below b, h.2.2.2.2.2.2.2.below b⟩)
  have mPd0 : w17.cell? ⟨w.heap.size, 0, none⟩ = some (.int .i64 fr) := (unhide K).2.1.c 0 (by simp)
  have mPd1 : w17.cell? ⟨w.heap.size, 1, none⟩ = some (.int .i64 pa) := (unhide K).2.1.c 1 (by simp)
  have mPd2 : w17.cell? ⟨w.heap.size, 2, none⟩ = some (.slice da1 dl1 dc1) := (unhide K).2.1.c 2 (by simp)
  have mQW00 : w17.cell? ⟨X5, 0, none⟩ = some (.int .i64 fr) := (unhide K).2.2.2.1.c 0 (by simp)
  have mQW01 : w17.cell? ⟨X5, 1, none⟩ = some (.int .i64 pa) := (unhide K).2.2.2.1.c 1 (by simp)
  have mQW02 : w17.cell? ⟨X5, 2, none⟩ = some (.slice a3 ((ftL fr pa ws pt lg).length) c4) := (unhide K).2.2.2.1.c 2 (by simp)
  have mQXx00 : w17.cell? ⟨X7, 0, none⟩ = some (.int .i64 fr) := (unhide K).2.2.2.2.1.c 0 (by simp)
  have mQXx01 : w17.cell? ⟨X7, 1, none⟩ = some (.int .i64 pa) := (unhide K).2.2.2.2.1.c 1 (by simp)
  have mQXx02 : w17.cell? ⟨X7, 2, none⟩ = some (.slice (some ⟨g6, 0, none⟩) dl1 dl1) := (unhide K).2.2.2.2.1.c 2 (by simp)
  have mQG00 : w17.cell? ⟨X10, 0, none⟩ = some (.int .i64 fr) := (unhide K).2.2.2.2.2.2.1.c 0 (by simp)
  have mQG01 : w17.cell? ⟨X10, 1, none⟩ = some (.int .i64 pa) := (unhide K).2.2.2.2.2.2.1.c 1 (by simp)
  have mQG02 : w17.cell? ⟨X10, 2, none⟩ = some (.slice a8 ((ftL fr pa ws pt lg).length) c9) := (unhide K).2.2.2.2.2.2.1.c 2 (by simp)
  go_wp2_with fail
  clear mPd0 mPd1 mPd2 mQW00 mQW01 mQW02 mQXx00 mQXx01 mQXx02 mQG00 mQG01 mQG02
  refine (implFitWindow_any _ _ _ _ _ _ _ _ _ (unhide K).2.2.2.2.2.2.2.read hd1).mono ?_
  rintro x w18 ⟨a13, c14, rfl, oH_0, b⟩
  have LH0 : Hid (PpLies w17.heap.size w18.heap.size a13 ((ftL fr pa ws pt lg).length) c14) := hide oH_0.lies
  have S23 : Hid (w17.heap.size ≤ w18.heap.size) := hide b.size
  have K : Hid (Below w.heap.size w w18 ∧ Blk w18 w.heap.size [.int .i64 fr, .int .i64 pa, .slice da1 dl1 dc1] ∧ PpOwn w18 w3.heap.size a3 ((ftL fr pa ws pt lg).length) c4 (ftL fr pa ws pt lg) ∧ Blk w18 X5 [.int .i64 fr, .int .i64 pa, .slice a3 ((ftL fr pa ws pt lg).length) c4] ∧ Blk w18 X7 [.int .i64 fr, .int .i64 pa, .slice (some ⟨g6, 0, none⟩) dl1 dl1] ∧ PpOwn w18 w7.heap.size a8 ((ftL fr pa ws pt lg).length) c9 (markL mkWn 3 (ftL fr pa ws pt lg) 1 ((ftL fr pa ws pt lg).length)) ∧ Blk w18 X10 [.int .i64 fr, .int .i64 pa, .slice a8 ((ftL fr pa ws pt lg).length) c9] ∧ PpOwn w18 w16.heap.size (some ⟨g12, 0, none⟩) dl1 dl1 ws) := hide ((unhide KEPT) _ _ (unhide K) b)
  have K : Hid (Below w.heap.size w w18 ∧ Blk w18 w.heap.size [.int .i64 fr, .int .i64 pa, .slice da1 dl1 dc1] ∧ PpOwn w18 w3.heap.size a3 ((ftL fr pa ws pt lg).length) c4 (ftL fr pa ws pt lg) ∧ Blk w18 X5 [.int .i64 fr, .int .i64 pa, .slice a3 ((ftL fr pa ws pt lg).length) c4] ∧ Blk w18 X7 [.int .i64 fr, .int .i64 pa, .slice (some ⟨g6, 0, none⟩) dl1 dl1] ∧ PpOwn w18 w7.heap.size a8 ((ftL fr pa ws pt lg).length) c9 (markL mkWn 3 (ftL fr pa ws pt lg) 1 ((ftL fr pa ws pt lg).length)) ∧ Blk w18 X10 [.int .i64 fr, .int .i64 pa, .slice a8 ((ftL fr pa ws pt lg).length) c9] ∧ PpOwn w18 w16.heap.size (some ⟨g12, 0, none⟩) dl1 dl1 ws ∧ PpOwn w18 w17.heap.size a13 ((ftL fr pa ws pt lg).length) c14 (ftL fr pa ws pt lg)) := hide ⟨(unhide K).1, (unhide K).2.1, (unhide K).2.2.1, (unhide K).2.2.2.1, (unhide K).2.2.2.2.1, (unhide K).2.2.2.2.2.1, (unhide K).2.2.2.2.2.2.1, (unhide K).2.2.2.2.2.2.2, oH_0⟩
  clear KEPT
  have KEPT : Hid (∀ W u3, (Below w.heap.size w W ∧ Blk W w.heap.size [.int .i64 fr, .int .i64 pa, .slice da1 dl1 dc1] ∧ PpOwn W w3.heap.size a3 ((ftL fr pa ws pt lg).length) c4 (ftL fr pa ws pt lg) ∧ Blk W X5 [.int .i64 fr, .int .i64 pa, .slice a3 ((ftL fr pa ws pt lg).length) c4] ∧ Blk W X7 [.int .i64 fr, .int .i64 pa, .slice (some ⟨g6, 0, none⟩) dl1 dl1] ∧ PpOwn W w7.heap.size a8 ((ftL fr pa ws pt lg).length) c9 (markL mkWn 3 (ftL fr pa ws pt lg) 1 ((ftL fr pa ws pt lg).length)) ∧ Blk W X10 [.int .i64 fr, .int .i64 pa, .slice a8 ((ftL fr pa ws pt lg).length) c9] ∧ PpOwn W w16.heap.size (some ⟨g12, 0, none⟩) dl1 dl1 ws ∧ PpOwn W w17.heap.size a13 ((ftL fr pa ws pt lg).length) c14 (ftL fr pa ws pt lg)) → Below W.heap.size W u3 → (Below w.heap.size w u3 ∧ Blk u3 w.heap.size [.int .i64 fr, .int .i64 pa, .slice da1 dl1 dc1] ∧ PpOwn u3 w3.heap.size a3 ((ftL fr pa ws pt lg).length) c4 (ftL fr pa ws pt lg) ∧ Blk u3 X5 [.int .i64 fr, .int .i64 pa, .slice a3 ((ftL fr pa ws pt lg).length) c4] ∧ Blk u3 X7 [.int .i64 fr, .int .i64 pa, .slice (some ⟨g6, 0, none⟩) dl1 dl1] ∧ PpOwn u3 w7.heap.size a8 ((ftL fr pa ws pt lg).length) c9 (markL mkWn 3 (ftL fr pa ws pt lg) 1 ((ftL fr pa ws pt lg).length)) ∧ Blk u3 X10 [.int .i64 fr, .int .i64 pa, .slice a8 ((ftL fr pa ws pt lg).length) c9] ∧ PpOwn u3 w16.heap.size (some ⟨g12, 0, none⟩) dl1 dl1 ws ∧ PpOwn u3 w17.heap.size a13 ((ftL fr pa ws pt lg).length) c14 (ftL fr pa ws pt lg))) := hide (fun W u3 h b => ⟨h.1.trans (b.mono h.1.size), h.2.1.below b, h.2.2.1.below b, h.2.2.2.1.below b, h.2.2.2.2.1.below b, h.2.2.2.2.2.1.below b, h.2.2.2.2.2.2.1.below b, h.2.2.2.2.2.2.2.1.below b, h.2.2.2.2.2.2.2.2.below b⟩)
  clear oH_0
  clear b
  have K : Hid (Below w.heap.size w w18 ∧ Blk w18 w.heap.size [.int .i64 fr, .int .i64 pa, .slice da1 dl1 dc1] ∧ PpOwn w18 w3.heap.size a3 ((ftL fr pa ws pt lg).length) c4 (ftL fr pa ws pt lg) ∧ Blk w18 X5 [.int .i64 fr, .int .i64 pa, .slice a3 ((ftL fr pa ws pt lg).length) c4] ∧ Blk w18 X7 [.int .i64 fr, .int .i64 pa, .slice (some ⟨g6, 0, none⟩) dl1 dl1] ∧ PpOwn w18 w7.heap.size a8 ((ftL fr pa ws pt lg).length) c9 (markL mkWn 3 (ftL fr pa ws pt lg) 1 ((ftL fr pa ws pt lg).length)) ∧ Blk w18 X10 [.int .i64 fr, .int .i64 pa, .slice a8 ((ftL fr pa ws pt lg).length) c9] ∧ PpOwn w18 w17.heap.size a13 ((ftL fr pa ws pt lg).length) c14 (ftL fr pa ws pt lg)) := hide ⟨(unhide K).1, (unhide K).2.1, (unhide K).2.2.1, (unhide K).2.2.2.1, (unhide K).2.2.2.2.1, (unhide K).2.2.2.2.2.1, (unhide K).2.2.2.2.2.2.1, (unhide K).2.2.2.2.2.2.2.2⟩
  clear KEPT
  have KEPT : Hid (∀ W u3, (Below w.heap.size w W ∧ Blk W w.heap.size [.int .i64 fr, .int .i64 pa, .slice da1 dl1 dc1] ∧ PpOwn W w3.heap.size a3 ((ftL fr pa ws pt lg).length) c4 (ftL fr pa ws pt lg) ∧ Blk W X5 [.int .i64 fr, .int .i64 pa, .slice a3 ((ftL fr pa ws pt lg).length) c4] ∧ Blk W X7 [.int .i64 fr, .int .i64 pa, .slice (some ⟨g6, 0, none⟩) dl1 dl1] ∧ PpOwn W w7.heap.size a8 ((ftL fr pa ws pt lg).length) c9 (markL mkWn 3 (ftL fr pa ws pt lg) 1 ((ftL fr pa ws pt lg).length)) ∧ Blk W X10 [.int .i64 fr, .int .i64 pa, .slice a8 ((ftL fr pa ws pt lg).length) c9] ∧ PpOwn W w17.heap.size a13 ((ftL fr pa ws pt lg).length) c14 (ftL fr pa ws pt lg)) → Below W.heap.size W u3 → (Below w.heap.size w u3 ∧ Blk u3 w.heap.size [.int .i64 fr, .int .i64 pa, .slice da1 dl1 dc1] ∧ PpOwn u3 w3.heap.size a3 ((ftL fr pa ws pt lg).length) c4 (ftL fr pa ws pt lg) ∧ Blk u3 X5 [.int .i64 fr, .int .i64 pa, .slice a3 ((ftL fr pa ws pt lg).length) c4] ∧ Blk u3 X7 [.int .i64 fr, .int .i64 pa, .slice (some ⟨g6, 0, none⟩) dl1 dl1] ∧ PpOwn u3 w7.heap.size a8 ((ftL fr pa ws pt lg).length) c9 (markL mkWn 3 (ftL fr pa ws pt lg) 1 ((ftL fr pa ws pt lg).length)) ∧ Blk u3 X10 [.int .i64 fr, .int .i64 pa, .slice a8 ((ftL fr pa ws pt lg).length) c9] ∧ PpOwn u3 w17.heap.size a13 ((ftL fr pa ws pt lg).length) c14 (ftL fr pa ws pt lg))) := hide (fun W u3 h b => ⟨h.1.trans (b.mono h.1.size), h.2.1.below b, h.2.2.1.below b, h.2.2.2.1.below b, h.2.2.2.2.1.below b, h.2.2.2.2.2.1.below b, h.2.2.2.2.2.2.1.below b, h.2.2.2.2.2.2.2.below b⟩)
  obtain ⟨w19, hw19⟩ : ∃ V, V = w18.alloc (Obj.cells #[.int .i64 fr, .int .i64 pa, .slice a13 ((ftL fr pa ws pt lg).length) c14] 28) := ⟨_, rfl⟩
  have b : Below w18.heap.size w18 w19 := by rw [hw19]; exact bel1 _
  have kx : Blk w19 w18.heap.size [.int .i64 fr, .int .i64 pa, .slice a13 ((ftL fr pa ws pt lg).length) c14] := by rw [hw19]; exact Blk.new _ _
  have S24 : Hid (w18.heap.size + 1 ≤ w19.heap.size) := hide (by rw [hw19]; simp)
  have S25 : Hid (w18.heap.size ≤ w19.heap.size) := hide b.size
  have K : Hid (Below w.heap.size w w19 ∧ Blk w19 w.heap.size [.int .i64 fr, .int .i64 pa, .slice da1 dl1 dc1] ∧ PpOwn w19 w3.heap.size a3 ((ftL fr pa ws pt lg).length) c4 (ftL fr pa ws pt lg) ∧ Blk w19 X5 [.int .i64 fr, .int .i64 pa, .slice a3 ((ftL fr pa ws pt lg).length) c4] ∧ Blk w19 X7 [.int .i64 fr, .int .i64 pa, .slice (some ⟨g6, 0, none⟩) dl1 dl1] ∧ PpOwn w19 w7.heap.size a8 ((ftL fr pa ws pt lg).length) c9 (markL mkWn 3 (ftL fr pa ws pt lg) 1 ((ftL fr pa ws pt lg).length)) ∧ Blk w19 X10 [.int .i64 fr, .int .i64 pa, .slice a8 ((ftL fr pa ws pt lg).length) c9] ∧ PpOwn w19 w17.heap.size a13 ((ftL fr pa ws pt lg).length) c14 (ftL fr pa ws pt lg)) := hide ((unhide KEPT) _ _ (unhide K) b)
  have mPd0 : w19.cell? ⟨w.heap.size, 0, none⟩ = some (.int .i64 fr) := (unhide K).2.1.c 0 (by simp)
  have mPd1 : w19.cell? ⟨w.heap.size, 1, none⟩ = some (.int .i64 pa) := (unhide K).2.1.c 1 (by simp)
  have mPd2 : w19.cell? ⟨w.heap.size, 2, none⟩ = some (.slice da1 dl1 dc1) := (unhide K).2.1.c 2 (by simp)
  have mQW00 : w19.cell? ⟨X5, 0, none⟩ = some (.int .i64 fr) := (unhide K).2.2.2.1.c 0 (by simp)
  have mQW01 : w19.cell? ⟨X5, 1, none⟩ = some (.int .i64 pa) := (unhide K).2.2.2.1.c 1 (by simp)
  have mQW02 : w19.cell? ⟨X5, 2, none⟩ = some (.slice a3 ((ftL fr pa ws pt lg).length) c4) := (unhide K).2.2.2.1.c 2 (by simp)
  have mQXx00 : w19.cell? ⟨X7, 0, none⟩ = some (.int .i64 fr) := (unhide K).2.2.2.2.1.c 0 (by simp)
  have mQXx01 : w19.cell? ⟨X7, 1, none⟩ = some (.int .i64 pa) := (unhide K).2.2.2.2.1.c 1 (by simp)
  have mQXx02 : w19.cell? ⟨X7, 2, none⟩ = some (.slice (some ⟨g6, 0, none⟩) dl1 dl1) := (unhide K).2.2.2.2.1.c 2 (by simp)
  have mQG00 : w19.cell? ⟨X10, 0, none⟩ = some (.int .i64 fr) := (unhide K).2.2.2.2.2.2.1.c 0 (by simp)
  have mQG01 : w19.cell? ⟨X10, 1, none⟩ = some (.int .i64 pa) := (unhide K).2.2.2.2.2.2.1.c 1 (by simp)
  have mQG02 : w19.cell? ⟨X10, 2, none⟩ = some (.slice a8 ((ftL fr pa ws pt lg).length) c9) := (unhide K).2.2.2.2.2.2.1.c 2 (by simp)
  rw [hw19] at mPd0 mPd1 mPd2 mQW00 mQW01 mQW02 mQXx00 mQXx01 mQXx02 mQG00 mQG01 mQG02
  obtain ⟨X15, hX15⟩ : ∃ X, w18.heap.size = X := ⟨_, rfl⟩
  rw [hX15] at kx
  have S26 : Hid (w18.heap.size = X15) := hide hX15
  have K : Hid (Below w.heap.size w w19 ∧ Blk w19 w.heap.size [.int .i64 fr, .int .i64 pa, .slice da1 dl1 dc1] ∧ PpOwn w19 w3.heap.size a3 ((ftL fr pa ws pt lg).length) c4 (ftL fr pa ws pt lg) ∧ Blk w19 X5 [.int .i64 fr, .int .i64 pa, .slice a3 ((ftL fr pa ws pt lg).length) c4] ∧ Blk w19 X7 [.int .i64 fr, .int .i64 pa, .slice (some ⟨g6, 0, none⟩) dl1 dl1] ∧ PpOwn w19 w7.heap.size a8 ((ftL fr pa ws pt lg).length) c9 (markL mkWn 3 (ftL fr pa ws pt lg) 1 ((ftL fr pa ws pt lg).length)) ∧ Blk w19 X10 [.int .i64 fr, .int .i64 pa, .slice a8 ((ftL fr pa ws pt lg).length) c9] ∧ PpOwn w19 w17.heap.size a13 ((ftL fr pa ws pt lg).length) c14 (ftL fr pa ws pt lg) ∧ Blk w19 X15 [.int .i64 fr, .int .i64 pa, .slice a13 ((ftL fr pa ws pt lg).length) c14]) := hide ⟨(unhide K).1, (unhide K).2.1, (unhide K).2.2.1, (unhide K).2.2.2.1, (unhide K).2.2.2.2.1, (unhide K).2.2.2.2.2.1, (unhide K).2.2.2.2.2.2.1, (unhide K).2.2.2.2.2.2.2, kx⟩
  clear KEPT b kx
  have KEPT : Hid (∀ W u3, (Below w.heap.size w W ∧ Blk W w.heap.size [.int .i64 fr, .int .i64 pa, .slice da1 dl1 dc1] ∧ PpOwn W w3.heap.size a3 ((ftL fr pa ws pt lg).length) c4 (ftL fr pa ws pt lg) ∧ Blk W X5 [.int .i64 fr, .int .i64 pa, .slice a3 ((ftL fr pa ws pt lg).length) c4] ∧ Blk W X7 [.int .i64 fr, .int .i64 pa, .slice (some ⟨g6, 0, none⟩) dl1 dl1] ∧ PpOwn W w7.heap.size a8 ((ftL fr pa ws pt lg).length) c9 (markL mkWn 3 (ftL fr pa ws pt lg) 1 ((ftL fr pa ws pt lg).length)) ∧ Blk W X10 [.int .i64 fr, .int .i64 pa, .slice a8 ((ftL fr pa ws pt lg).length) c9] ∧ PpOwn W w17.heap.size a13 ((ftL fr pa ws pt lg).length) c14 (ftL fr pa ws pt lg) ∧ Blk W X15 [.int .i64 fr, .int .i64 pa, .slice a13 ((ftL fr pa ws pt lg).length) c14]) → Below W.heap.size W u3 → (Below w.heap.size w u3 ∧ Blk u3 w.heap.size [.int .i64 fr, .int .i64 pa, .slice da1 dl1 dc1] ∧ PpOwn u3 w3.heap.size a3 ((ftL fr pa ws pt lg).length) c4 (ftL fr pa ws pt lg) ∧ Blk u3 X5 [.int .i64 fr, .int .i64 pa, .slice a3 ((ftL fr pa ws pt lg).length) c4] ∧ Blk u3 X7 [.int .i64 fr, .int .i64 pa, .slice (some ⟨g6, 0, none⟩) dl1 dl1] ∧ PpOwn u3 w7.heap.size a8 ((ftL fr pa ws pt lg).length) c9 (markL mkWn 3 (ftL fr pa ws pt lg) 1 ((ftL fr pa ws pt lg).length)) ∧ Blk u3 X10 [.int .i64 fr, .int .i64 pa, .slice a8 ((ftL fr pa ws pt lg).length) c9] ∧ PpOwn u3 w17.heap.size a13 ((ftL fr pa ws pt lg).length) c14 (ftL fr pa ws pt lg) ∧ Blk u3 X15 [.int .i64 fr, .int .i64 pa, .slice a13 ((ftL fr pa ws pt lg).length) c14])) := hide (fun W u3 h b => ⟨h.1.trans (b.mono h.1.size), h.2.1.below b, h.2.2.1.below b, h.2.2.2.1.below b, h.2.2.2.2.1.below b, h.2.2.2.2.2.1.below b, h.2.2.2.2.2.2.1.below b, h.2.2.2.2.2.2.2.1.below b, h.2.2.2.2.2.2.2.2.below b⟩)
  have Hw19 := hide hw19
  have HX15 := hide hX15
  clear hw19 hX15
  go_wp2_with fail
  try rw [← unhide Hw19]
  try rw [unhide HX15]
  clear Hw19 HX15 mPd0 mPd1 mPd2 mQW00 mQW01 mQW02 mQXx00 mQXx01 mQXx02 mQG00 mQG01 mQG02
  refine (eqPlan17_same _ _ _ _ _ _ _ _ _ (unhide K).2.2.2.2.2.2.2.1.read (unhide K).2.2.1.read).mono ?_
  rintro x w20 ⟨rfl, b⟩
  have S27 : Hid (w19.heap.size ≤ w20.heap.size) := hide b.size
  have K : Hid (Below w.heap.size w w20 ∧ Blk w20 w.heap.size [.int .i64 fr, .int .i64 pa, .slice da1 dl1 dc1] ∧ PpOwn w20 w3.heap.size a3 ((ftL fr pa ws pt lg).length) c4 (ftL fr pa ws pt lg) ∧ Blk w20 X5 [.int .i64 fr, .int .i64 pa, .slice a3 ((ftL fr pa ws pt lg).length) c4] ∧ Blk w20 X7 [.int .i64 fr, .int .i64 pa, .slice (some ⟨g6, 0, none⟩) dl1 dl1] ∧ PpOwn w20 w7.heap.size a8 ((ftL fr pa ws pt lg).length) c9 (markL mkWn 3 (ftL fr pa ws pt lg) 1 ((ftL fr pa ws pt lg).length)) ∧ Blk w20 X10 [.int .i64 fr, .int .i64 pa, .slice a8 ((ftL fr pa ws pt lg).length) c9] ∧ PpOwn w20 w17.heap.size a13 ((ftL fr pa ws pt lg).length) c14 (ftL fr pa ws pt lg) ∧ Blk w20 X15 [.int .i64 fr, .int .i64 pa, .slice a13 ((ftL fr pa ws pt lg).length) c14]) := hide ((unhide KEPT) _ _ (unhide K) b)
  clear b
  have mPd0 : w20.cell? ⟨w.heap.size, 0, none⟩ = some (.int .i64 fr) := (unhide K).2.1.c 0 (by simp)
  have mPd1 : w20.cell? ⟨w.heap.size, 1, none⟩ = some (.int .i64 pa) := (unhide K).2.1.c 1 (by simp)
  have mPd2 : w20.cell? ⟨w.heap.size, 2, none⟩ = some (.slice da1 dl1 dc1) := (unhide K).2.1.c 2 (by simp)
  have mQW00 : w20.cell? ⟨X5, 0, none⟩ = some (.int .i64 fr) := (unhide K).2.2.2.1.c 0 (by simp)
  have mQW01 : w20.cell? ⟨X5, 1, none⟩ = some (.int .i64 pa) := (unhide K).2.2.2.1.c 1 (by simp)
  have mQW02 : w20.cell? ⟨X5, 2, none⟩ = some (.slice a3 ((ftL fr pa ws pt lg).length) c4) := (unhide K).2.2.2.1.c 2 (by simp)
  have mQXx00 : w20.cell? ⟨X7, 0, none⟩ = some (.int .i64 fr) := (unhide K).2.2.2.2.1.c 0 (by simp)
  have mQXx01 : w20.cell? ⟨X7, 1, none⟩ = some (.int .i64 pa) := (unhide K).2.2.2.2.1.c 1 (by simp)
  have mQXx02 : w20.cell? ⟨X7, 2, none⟩ = some (.slice (some ⟨g6, 0, none⟩) dl1 dl1) := (unhide K).2.2.2.2.1.c 2 (by simp)
  have mQG00 : w20.cell? ⟨X10, 0, none⟩ = some (.int .i64 fr) := (unhide K).2.2.2.2.2.2.1.c 0 (by simp)
  have mQG01 : w20.cell? ⟨X10, 1, none⟩ = some (.int .i64 pa) := (unhide K).2.2.2.2.2.2.1.c 1 (by simp)
  have mQG02 : w20.cell? ⟨X10, 2, none⟩ = some (.slice a8 ((ftL fr pa ws pt lg).length) c9) := (unhide K).2.2.2.2.2.2.1.c 2 (by simp)
  have mQH00 : w20.cell? ⟨X15, 0, none⟩ = some (.int .i64 fr) := (unhide K).2.2.2.2.2.2.2.2.c 0 (by simp)
  have mQH01 : w20.cell? ⟨X15, 1, none⟩ = some (.int .i64 pa) := (unhide K).2.2.2.2.2.2.2.2.c 1 (by simp)
  have mQH02 : w20.cell? ⟨X15, 2, none⟩ = some (.slice a13 ((ftL fr pa ws pt lg).length) c14) := (unhide K).2.2.2.2.2.2.2.2.c 2 (by simp)
  go_wp2_with fail
  clear mPd0 mPd1 mPd2 mQW00 mQW01 mQW02 mQXx00 mQXx01 mQXx02 mQG00 mQG01 mQG02 mQH00 mQH01 mQH02
  refine (heldPlan17_any _ _ _ _ _ _ _ 1 _ (unhide K).2.2.2.2.2.1 (rfl) (by have := hfl; omega) (by omega) (by omega)).mono ?_
  rintro x w21 ⟨rfl, b⟩
  have S28 : Hid (w20.heap.size ≤ w21.heap.size) := hide b.size
  have K : Hid (Below w.heap.size w w21 ∧ Blk w21 w.heap.size [.int .i64 fr, .int .i64 pa, .slice da1 dl1 dc1] ∧ PpOwn w21 w3.heap.size a3 ((ftL fr pa ws pt lg).length) c4 (ftL fr pa ws pt lg) ∧ Blk w21 X5 [.int .i64 fr, .int .i64 pa, .slice a3 ((ftL fr pa ws pt lg).length) c4] ∧ Blk w21 X7 [.int .i64 fr, .int .i64 pa, .slice (some ⟨g6, 0, none⟩) dl1 dl1] ∧ PpOwn w21 w7.heap.size a8 ((ftL fr pa ws pt lg).length) c9 (markL mkWn 3 (ftL fr pa ws pt lg) 1 ((ftL fr pa ws pt lg).length)) ∧ Blk w21 X10 [.int .i64 fr, .int .i64 pa, .slice a8 ((ftL fr pa ws pt lg).length) c9] ∧ PpOwn w21 w17.heap.size a13 ((ftL fr pa ws pt lg).length) c14 (ftL fr pa ws pt lg) ∧ Blk w21 X15 [.int .i64 fr, .int .i64 pa, .slice a13 ((ftL fr pa ws pt lg).length) c14]) := hide ((unhide KEPT) _ _ (unhide K) b)
  clear b
  have nq21 : ¬ (1 + 3 * ((ftL fr pa ws pt lg).length : Int) < 0) := by omega
  have nn21 : (1 + 3 * ((ftL fr pa ws pt lg).length : Int) != 1 + 3 * ((ftL fr pa ws pt lg).length : Int)) = false := by simp
  have mPd0 : w21.cell? ⟨w.heap.size, 0, none⟩ = some (.int .i64 fr) := (unhide K).2.1.c 0 (by simp)
  have mPd1 : w21.cell? ⟨w.heap.size, 1, none⟩ = some (.int .i64 pa) := (unhide K).2.1.c 1 (by simp)
  have mPd2 : w21.cell? ⟨w.heap.size, 2, none⟩ = some (.slice da1 dl1 dc1) := (unhide K).2.1.c 2 (by simp)
  have mQW00 : w21.cell? ⟨X5, 0, none⟩ = some (.int .i64 fr) := (unhide K).2.2.2.1.c 0 (by simp)
  have mQW01 : w21.cell? ⟨X5, 1, none⟩ = some (.int .i64 pa) := (unhide K).2.2.2.1.c 1 (by simp)
  have mQW02 : w21.cell? ⟨X5, 2, none⟩ = some (.slice a3 ((ftL fr pa ws pt lg).length) c4) := (unhide K).2.2.2.1.c 2 (by simp)
  have mQXx00 : w21.cell? ⟨X7, 0, none⟩ = some (.int .i64 fr) := (unhide K).2.2.2.2.1.c 0 (by simp)
  have mQXx01 : w21.cell? ⟨X7, 1, none⟩ = some (.int .i64 pa) := (unhide K).2.2.2.2.1.c 1 (by simp)
  have mQXx02 : w21.cell? ⟨X7, 2, none⟩ = some (.slice (some ⟨g6, 0, none⟩) dl1 dl1) := (unhide K).2.2.2.2.1.c 2 (by simp)
  have mQG00 : w21.cell? ⟨X10, 0, none⟩ = some (.int .i64 fr) := (unhide K).2.2.2.2.2.2.1.c 0 (by simp)
  have mQG01 : w21.cell? ⟨X10, 1, none⟩ = some (.int .i64 pa) := (unhide K).2.2.2.2.2.2.1.c 1 (by simp)
  have mQG02 : w21.cell? ⟨X10, 2, none⟩ = some (.slice a8 ((ftL fr pa ws pt lg).length) c9) := (unhide K).2.2.2.2.2.2.1.c 2 (by simp)
  have mQH00 : w21.cell? ⟨X15, 0, none⟩ = some (.int .i64 fr) := (unhide K).2.2.2.2.2.2.2.2.c 0 (by simp)
  have mQH01 : w21.cell? ⟨X15, 1, none⟩ = some (.int .i64 pa) := (unhide K).2.2.2.2.2.2.2.2.c 1 (by simp)
  have mQH02 : w21.cell? ⟨X15, 2, none⟩ = some (.slice a13 ((ftL fr pa ws pt lg).length) c14) := (unhide K).2.2.2.2.2.2.2.2.c 2 (by simp)
  go_wp2_with fail
  clear mPd0 mPd1 mPd2 mQW00 mQW01 mQW02 mQXx00 mQXx01 mQXx02 mQG00 mQG01 mQG02 mQH00 mQH01 mQH02
  go_ret
  exact ⟨rfl, (unhide K).1⟩
end Go.Proofs.Ytndhiecakojjgba
