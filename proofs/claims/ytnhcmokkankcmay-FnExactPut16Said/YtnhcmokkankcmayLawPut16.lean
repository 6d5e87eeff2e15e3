/-
  The law FnExactPut16 returns true at every argument and writes nothing that was there: the walk. No condition.
-/
import Derived.Test.YtnhcmokkankcmayWdMark
import Derived.Test.YtnhcmokkankcmayBuPutAny
import Derived.Test.YtnhcmokkankcmayOnly
import Derived.Deep.RegionHeld3
namespace Go.Proofs.Ytnhcmokkankcmay
open Go.RowKit
set_option maxRecDepth 20000 in
set_option maxHeartbeats 8000000 in
theorem lawPut16 (wl ws : Int) (va1 : Option Addr) (vl1 vc1 : Nat) (ys : List Int) (w : World) (hrv : WdIn w va1 vl1 ys)  :
    Calls Try.prog 4 #[.agg #[.int .i64 wl, .int .i64 ws, .slice va1 vl1 vc1]] w fun x w' => x = .returned (.bool true) ∧ Below w.heap.size w w' := by
  have Rv := hide hrv
  have smv1 := hrv.r1.small
  have Ev1 := hide hrv.r1.len_eq
  clear hrv
  have hq0 : (wdB wl ws ys.length != wdB wl ws ys.length) = false := by simp
  have hfl : (ptL wl ws ys).length ≤ 36 := ptL_len wl ws ys
  go_enter Try.func4, Try.ntmps4
  go_wp2_with fail
  obtain ⟨w1, hw1⟩ : ∃ W, W = (w.alloc (Obj.cells #[.int .i64 wl, .int .i64 ws, .slice va1 vl1 vc1] 24)) := ⟨_, rfl⟩
  rw [← hw1]
  have K : Hid (Below w.heap.size w w1 ∧ Blk w1 w.heap.size [.int .i64 wl, .int .i64 ws, .slice va1 vl1 vc1]) := hide ⟨(by rw [hw1]; exact bel1 _), (by rw [hw1]; exact Blk.new _ _)⟩
  have S0 : Hid (w.heap.size + 1 ≤ w1.heap.size) := hide (by rw [hw1]; simp; try omega)
  clear hw1
  have KEPT : Hid (∀ W u3, (Below w.heap.size w W ∧ Blk W w.heap.size [.int .i64 wl, .int .i64 ws, .slice va1 vl1 vc1]) → Below W.heap.size W u3 → (Below w.heap.size w u3 ∧ Blk u3 w.heap.size [.int .i64 wl, .int .i64 ws, .slice va1 vl1 vc1])) := hide (fun W u3 h b => ⟨h.1.trans (b.mono h.1.size), h.2.below b⟩)
  refine (szWord16_any _ _ _ _ _ 1048576 _ smv1 (by omega) (by omega)).mono ?_
  rintro x w2 ⟨⟨r1, rfl, hl⟩, b⟩
  have S1 : Hid (w1.heap.size ≤ w2.heap.size) := hide b.size
  have K : Hid (Below w.heap.size w w2 ∧ Blk w2 w.heap.size [.int .i64 wl, .int .i64 ws, .slice va1 vl1 vc1]) := hide ((unhide KEPT) _ _ (unhide K) b)
  clear b
  rcases hl with hl | ⟨hl, hle, hv1⟩
  · go_wp2_with fail
    go_ret
    exact ⟨rfl, (unhide K).1⟩
  have nr1 : ¬ r1 < 0 := by omega
  have mPv0 : w2.cell? ⟨w.heap.size, 0, none⟩ = some (.int .i64 wl) := (unhide K).2.c 0 (by simp)
  have mPv1 : w2.cell? ⟨w.heap.size, 1, none⟩ = some (.int .i64 ws) := (unhide K).2.c 1 (by simp)
  have mPv2 : w2.cell? ⟨w.heap.size, 2, none⟩ = some (.slice va1 vl1 vc1) := (unhide K).2.c 2 (by simp)
  go_wp2_with fail
  clear mPv0 mPv1 mPv2
  refine (toWord16_own _ _ _ _ _ _ _ ((unhide Rv).below (unhide K).1) hv1).mono ?_
  rintro x w3 ⟨⟨g2, rfl, oc⟩, b⟩
  have LT3 : Hid (WdLies w2.heap.size w3.heap.size (some ⟨g2, 0, none⟩) vl1 vl1) := hide oc.lies
  have S2 : Hid (w2.heap.size ≤ w3.heap.size) := hide b.size
  have K : Hid (Below w.heap.size w w3 ∧ Blk w3 w.heap.size [.int .i64 wl, .int .i64 ws, .slice va1 vl1 vc1]) := hide ((unhide KEPT) _ _ (unhide K) b)
  have K : Hid (Below w.heap.size w w3 ∧ Blk w3 w.heap.size [.int .i64 wl, .int .i64 ws, .slice va1 vl1 vc1] ∧ WdOwn w3 w2.heap.size (some ⟨g2, 0, none⟩) vl1 vl1 ys) := hide ⟨(unhide K).1, (unhide K).2, oc⟩
  clear KEPT oc b
  have KEPT : Hid (∀ W u3, (Below w.heap.size w W ∧ Blk W w.heap.size [.int .i64 wl, .int .i64 ws, .slice va1 vl1 vc1] ∧ WdOwn W w2.heap.size (some ⟨g2, 0, none⟩) vl1 vl1 ys) → Below W.heap.size W u3 → (Below w.heap.size w u3 ∧ Blk u3 w.heap.size [.int .i64 wl, .int .i64 ws, .slice va1 vl1 vc1] ∧ WdOwn u3 w2.heap.size (some ⟨g2, 0, none⟩) vl1 vl1 ys)) := hide (fun W u3 h b => ⟨h.1.trans (b.mono h.1.size), h.2.1.below b, h.2.2.below b⟩)
  have mPv0 : w3.cell? ⟨w.heap.size, 0, none⟩ = some (.int .i64 wl) := (unhide K).2.1.c 0 (by simp)
  have mPv1 : w3.cell? ⟨w.heap.size, 1, none⟩ = some (.int .i64 ws) := (unhide K).2.1.c 1 (by simp)
  have mPv2 : w3.cell? ⟨w.heap.size, 2, none⟩ = some (.slice va1 vl1 vc1) := (unhide K).2.1.c 2 (by simp)
  go_wp2_with fail
  clear mPv0 mPv1 mPv2
  refine (specPut16_any _ _ _ _ _ _ _ (unhide K).2.2.read ).mono ?_
  rintro x w4 ⟨a3, c4, rfl, oW_0, b⟩
  have LW0 : Hid (∀ g, (Value.slice a3 ((ptL wl ws ys).length) c4).ownBlock = some g → w3.heap.size ≤ g ∧ g < w4.heap.size) := hide oW_0.lies
  have S3 : Hid (w3.heap.size ≤ w4.heap.size) := hide b.size
  have K : Hid (Below w.heap.size w w4 ∧ Blk w4 w.heap.size [.int .i64 wl, .int .i64 ws, .slice va1 vl1 vc1] ∧ WdOwn w4 w2.heap.size (some ⟨g2, 0, none⟩) vl1 vl1 ys) := hide ((unhide KEPT) _ _ (unhide K) b)
  have K : Hid (Below w.heap.size w w4 ∧ Blk w4 w.heap.size [.int .i64 wl, .int .i64 ws, .slice va1 vl1 vc1] ∧ WdOwn w4 w2.heap.size (some ⟨g2, 0, none⟩) vl1 vl1 ys ∧ OwnE 1 byC w4 w3.heap.size 5 (.slice a3 ((ptL wl ws ys).length) c4) (ptL wl ws ys)) := hide ⟨(unhide K).1, (unhide K).2.1, (unhide K).2.2, oW_0⟩
  clear KEPT
  have KEPT : Hid (∀ W u3, (Below w.heap.size w W ∧ Blk W w.heap.size [.int .i64 wl, .int .i64 ws, .slice va1 vl1 vc1] ∧ WdOwn W w2.heap.size (some ⟨g2, 0, none⟩) vl1 vl1 ys ∧ OwnE 1 byC W w3.heap.size 5 (.slice a3 ((ptL wl ws ys).length) c4) (ptL wl ws ys)) → Below W.heap.size W u3 → (Below w.heap.size w u3 ∧ Blk u3 w.heap.size [.int .i64 wl, .int .i64 ws, .slice va1 vl1 vc1] ∧ WdOwn u3 w2.heap.size (some ⟨g2, 0, none⟩) vl1 vl1 ys ∧ OwnE 1 byC u3 w3.heap.size 5 (.slice a3 ((ptL wl ws ys).length) c4) (ptL wl ws ys))) := hide (fun W u3 h b => ⟨h.1.trans (b.mono h.1.size), h.2.1.below b, h.2.2.1.below b, h.2.2.2.below b⟩)
  clear oW_0
  clear b
  have K : Hid (Below w.heap.size w w4 ∧ Blk w4 w.heap.size [.int .i64 wl, .int .i64 ws, .slice va1 vl1 vc1] ∧ OwnE 1 byC w4 w3.heap.size 5 (.slice a3 ((ptL wl ws ys).length) c4) (ptL wl ws ys)) := hide ⟨(unhide K).1, (unhide K).2.1, (unhide K).2.2.2⟩
  clear KEPT
  have KEPT : Hid (∀ W u3, (Below w.heap.size w W ∧ Blk W w.heap.size [.int .i64 wl, .int .i64 ws, .slice va1 vl1 vc1] ∧ OwnE 1 byC W w3.heap.size 5 (.slice a3 ((ptL wl ws ys).length) c4) (ptL wl ws ys)) → Below W.heap.size W u3 → (Below w.heap.size w u3 ∧ Blk u3 w.heap.size [.int .i64 wl, .int .i64 ws, .slice va1 vl1 vc1] ∧ OwnE 1 byC u3 w3.heap.size 5 (.slice a3 ((ptL wl ws ys).length) c4) (ptL wl ws ys))) := hide (fun W u3 h b => ⟨h.1.trans (b.mono h.1.size), h.2.1.below b, h.2.2.below b⟩)
  have mPv0 : w4.cell? ⟨w.heap.size, 0, none⟩ = some (.int .i64 wl) := (unhide K).2.1.c 0 (by simp)
  have mPv1 : w4.cell? ⟨w.heap.size, 1, none⟩ = some (.int .i64 ws) := (unhide K).2.1.c 1 (by simp)
  have mPv2 : w4.cell? ⟨w.heap.size, 2, none⟩ = some (.slice va1 vl1 vc1) := (unhide K).2.1.c 2 (by simp)
  go_wp2_with fail
  clear mPv0 mPv1 mPv2
  refine (toWord16_own _ _ _ _ _ _ _ ((unhide Rv).below (unhide K).1) hv1).mono ?_
  rintro x w5 ⟨⟨g5, rfl, oc⟩, b⟩
  have LXx0 : Hid (WdLies w4.heap.size w5.heap.size (some ⟨g5, 0, none⟩) vl1 vl1) := hide oc.lies
  have S4 : Hid (w4.heap.size ≤ w5.heap.size) := hide b.size
  have K : Hid (Below w.heap.size w w5 ∧ Blk w5 w.heap.size [.int .i64 wl, .int .i64 ws, .slice va1 vl1 vc1] ∧ OwnE 1 byC w5 w3.heap.size 5 (.slice a3 ((ptL wl ws ys).length) c4) (ptL wl ws ys)) := hide ((unhide KEPT) _ _ (unhide K) b)
  have K : Hid (Below w.heap.size w w5 ∧ Blk w5 w.heap.size [.int .i64 wl, .int .i64 ws, .slice va1 vl1 vc1] ∧ OwnE 1 byC w5 w3.heap.size 5 (.slice a3 ((ptL wl ws ys).length) c4) (ptL wl ws ys) ∧ WdOwn w5 w4.heap.size (some ⟨g5, 0, none⟩) vl1 vl1 ys) := hide ⟨(unhide K).1, (unhide K).2.1, (unhide K).2.2, oc⟩
  clear KEPT oc b
  have KEPT : Hid (∀ W u3, (Below w.heap.size w W ∧ Blk W w.heap.size [.int .i64 wl, .int .i64 ws, .slice va1 vl1 vc1] ∧ OwnE 1 byC W w3.heap.size 5 (.slice a3 ((ptL wl ws ys).length) c4) (ptL wl ws ys) ∧ WdOwn W w4.heap.size (some ⟨g5, 0, none⟩) vl1 vl1 ys) → Below W.heap.size W u3 → (Below w.heap.size w u3 ∧ Blk u3 w.heap.size [.int .i64 wl, .int .i64 ws, .slice va1 vl1 vc1] ∧ OwnE 1 byC u3 w3.heap.size 5 (.slice a3 ((ptL wl ws ys).length) c4) (ptL wl ws ys) ∧ WdOwn u3 w4.heap.size (some ⟨g5, 0, none⟩) vl1 vl1 ys)) := hide (fun W u3 h b => ⟨h.1.trans (b.mono h.1.size), h.2.1.below b, h.2.2.1.below b, h.2.2.2.below b⟩)
  obtain ⟨w6, hw6⟩ : ∃ V, V = w5.alloc (Obj.cells #[.int .i64 wl, .int .i64 ws, .slice (some ⟨g5, 0, none⟩) vl1 vl1] 27) := ⟨_, rfl⟩
  have b : Below w5.heap.size w5 w6 := by rw [hw6]; exact bel1 _
  have kx : Blk w6 w5.heap.size [.int .i64 wl, .int .i64 ws, .slice (some ⟨g5, 0, none⟩) vl1 vl1] := by rw [hw6]; exact Blk.new _ _
  have S5 : Hid (w5.heap.size + 1 ≤ w6.heap.size) := hide (by rw [hw6]; simp)
  have S6 : Hid (w5.heap.size ≤ w6.heap.size) := hide b.size
  have K : Hid (Below w.heap.size w w6 ∧ Blk w6 w.heap.size [.int .i64 wl, .int .i64 ws, .slice va1 vl1 vc1] ∧ OwnE 1 byC w6 w3.heap.size 5 (.slice a3 ((ptL wl ws ys).length) c4) (ptL wl ws ys) ∧ WdOwn w6 w4.heap.size (some ⟨g5, 0, none⟩) vl1 vl1 ys) := hide ((unhide KEPT) _ _ (unhide K) b)
  have mPv0 : w6.cell? ⟨w.heap.size, 0, none⟩ = some (.int .i64 wl) := (unhide K).2.1.c 0 (by simp)
  have mPv1 : w6.cell? ⟨w.heap.size, 1, none⟩ = some (.int .i64 ws) := (unhide K).2.1.c 1 (by simp)
  have mPv2 : w6.cell? ⟨w.heap.size, 2, none⟩ = some (.slice va1 vl1 vc1) := (unhide K).2.1.c 2 (by simp)
  rw [hw6] at mPv0 mPv1 mPv2
  obtain ⟨X6, hX6⟩ : ∃ X, w5.heap.size = X := ⟨_, rfl⟩
  rw [hX6] at kx
  have S7 : Hid (w5.heap.size = X6) := hide hX6
  have K : Hid (Below w.heap.size w w6 ∧ Blk w6 w.heap.size [.int .i64 wl, .int .i64 ws, .slice va1 vl1 vc1] ∧ OwnE 1 byC w6 w3.heap.size 5 (.slice a3 ((ptL wl ws ys).length) c4) (ptL wl ws ys) ∧ WdOwn w6 w4.heap.size (some ⟨g5, 0, none⟩) vl1 vl1 ys ∧ Blk w6 X6 [.int .i64 wl, .int .i64 ws, .slice (some ⟨g5, 0, none⟩) vl1 vl1]) := hide ⟨(unhide K).1, (unhide K).2.1, (unhide K).2.2.1, (unhide K).2.2.2, kx⟩
  clear KEPT b kx
  have KEPT : Hid (∀ W u3, (Below w.heap.size w W ∧ Blk W w.heap.size [.int .i64 wl, .int .i64 ws, .slice va1 vl1 vc1] ∧ OwnE 1 byC W w3.heap.size 5 (.slice a3 ((ptL wl ws ys).length) c4) (ptL wl ws ys) ∧ WdOwn W w4.heap.size (some ⟨g5, 0, none⟩) vl1 vl1 ys ∧ Blk W X6 [.int .i64 wl, .int .i64 ws, .slice (some ⟨g5, 0, none⟩) vl1 vl1]) → Below W.heap.size W u3 → (Below w.heap.size w u3 ∧ Blk u3 w.heap.size [.int .i64 wl, .int .i64 ws, .slice va1 vl1 vc1] ∧ OwnE 1 byC u3 w3.heap.size 5 (.slice a3 ((ptL wl ws ys).length) c4) (ptL wl ws ys) ∧ WdOwn u3 w4.heap.size (some ⟨g5, 0, none⟩) vl1 vl1 ys ∧ Blk u3 X6 [.int .i64 wl, .int .i64 ws, .slice (some ⟨g5, 0, none⟩) vl1 vl1])) := hide (fun W u3 h b => ⟨h.1.trans (b.mono h.1.size), h.2.1.below b, h.2.2.1.below b, h.2.2.2.1.below b, h.2.2.2.2.below b⟩)
  have Hw6 := hide hw6
  have HX6 := hide hX6
  clear hw6 hX6
  go_wp2_with fail
  try rw [← unhide Hw6]
  try rw [unhide HX6]
  clear Hw6 HX6 mPv0 mPv1 mPv2
  refine (implPut16_any _ _ _ _ _ _ _ (unhide K).2.2.2.1.read ).mono ?_
  rintro x w7 ⟨a7, c8, rfl, oG_0, b⟩
  have LG0 : Hid (∀ g, (Value.slice a7 ((ptL wl ws ys).length) c8).ownBlock = some g → w6.heap.size ≤ g ∧ g < w7.heap.size) := hide oG_0.lies
  have S8 : Hid (w6.heap.size ≤ w7.heap.size) := hide b.size
  have K : Hid (Below w.heap.size w w7 ∧ Blk w7 w.heap.size [.int .i64 wl, .int .i64 ws, .slice va1 vl1 vc1] ∧ OwnE 1 byC w7 w3.heap.size 5 (.slice a3 ((ptL wl ws ys).length) c4) (ptL wl ws ys) ∧ WdOwn w7 w4.heap.size (some ⟨g5, 0, none⟩) vl1 vl1 ys ∧ Blk w7 X6 [.int .i64 wl, .int .i64 ws, .slice (some ⟨g5, 0, none⟩) vl1 vl1]) := hide ((unhide KEPT) _ _ (unhide K) b)
  have K : Hid (Below w.heap.size w w7 ∧ Blk w7 w.heap.size [.int .i64 wl, .int .i64 ws, .slice va1 vl1 vc1] ∧ OwnE 1 byC w7 w3.heap.size 5 (.slice a3 ((ptL wl ws ys).length) c4) (ptL wl ws ys) ∧ WdOwn w7 w4.heap.size (some ⟨g5, 0, none⟩) vl1 vl1 ys ∧ Blk w7 X6 [.int .i64 wl, .int .i64 ws, .slice (some ⟨g5, 0, none⟩) vl1 vl1] ∧ OwnE 1 byC w7 w6.heap.size 5 (.slice a7 ((ptL wl ws ys).length) c8) (ptL wl ws ys)) := hide ⟨(unhide K).1, (unhide K).2.1, (unhide K).2.2.1, (unhide K).2.2.2.1, (unhide K).2.2.2.2, oG_0⟩
  clear KEPT
  have KEPT : Hid (∀ W u3, (Below w.heap.size w W ∧ Blk W w.heap.size [.int .i64 wl, .int .i64 ws, .slice va1 vl1 vc1] ∧ OwnE 1 byC W w3.heap.size 5 (.slice a3 ((ptL wl ws ys).length) c4) (ptL wl ws ys) ∧ WdOwn W w4.heap.size (some ⟨g5, 0, none⟩) vl1 vl1 ys ∧ Blk W X6 [.int .i64 wl, .int .i64 ws, .slice (some ⟨g5, 0, none⟩) vl1 vl1] ∧ OwnE 1 byC W w6.heap.size 5 (.slice a7 ((ptL wl ws ys).length) c8) (ptL wl ws ys)) → Below W.heap.size W u3 → (Below w.heap.size w u3 ∧ Blk u3 w.heap.size [.int .i64 wl, .int .i64 ws, .slice va1 vl1 vc1] ∧ OwnE 1 byC u3 w3.heap.size 5 (.slice a3 ((ptL wl ws ys).length) c4) (ptL wl ws ys) ∧ WdOwn u3 w4.heap.size (some ⟨g5, 0, none⟩) vl1 vl1 ys ∧ Blk u3 X6 [.int .i64 wl, .int .i64 ws, .slice (some ⟨g5, 0, none⟩) vl1 vl1] ∧ OwnE 1 byC u3 w6.heap.size 5 (.slice a7 ((ptL wl ws ys).length) c8) (ptL wl ws ys))) := hide (fun W u3 h b => ⟨h.1.trans (b.mono h.1.size), h.2.1.below b, h.2.2.1.below b, h.2.2.2.1.below b, h.2.2.2.2.1.below b, h.2.2.2.2.2.below b⟩)
  clear oG_0
  clear b
  have mPv0 : w7.cell? ⟨w.heap.size, 0, none⟩ = some (.int .i64 wl) := (unhide K).2.1.c 0 (by simp)
  have mPv1 : w7.cell? ⟨w.heap.size, 1, none⟩ = some (.int .i64 ws) := (unhide K).2.1.c 1 (by simp)
  have mPv2 : w7.cell? ⟨w.heap.size, 2, none⟩ = some (.slice va1 vl1 vc1) := (unhide K).2.1.c 2 (by simp)
  have mQXx00 : w7.cell? ⟨X6, 0, none⟩ = some (.int .i64 wl) := (unhide K).2.2.2.2.1.c 0 (by simp)
  have mQXx01 : w7.cell? ⟨X6, 1, none⟩ = some (.int .i64 ws) := (unhide K).2.2.2.2.1.c 1 (by simp)
  have mQXx02 : w7.cell? ⟨X6, 2, none⟩ = some (.slice (some ⟨g5, 0, none⟩) vl1 vl1) := (unhide K).2.2.2.2.1.c 2 (by simp)
  go_wp2_with fail
  clear mPv0 mPv1 mPv2 mQXx00 mQXx01 mQXx02
  refine (eqByteS_same _ _ _ _ _ _ _ _ (unhide K).2.2.2.2.2.row (unhide K).2.2.1.row).mono ?_
  rintro x w8 ⟨rfl, b⟩
  have S9 : Hid (w7.heap.size ≤ w8.heap.size) := hide b.size
  have K : Hid (Below w.heap.size w w8 ∧ Blk w8 w.heap.size [.int .i64 wl, .int .i64 ws, .slice va1 vl1 vc1] ∧ OwnE 1 byC w8 w3.heap.size 5 (.slice a3 ((ptL wl ws ys).length) c4) (ptL wl ws ys) ∧ WdOwn w8 w4.heap.size (some ⟨g5, 0, none⟩) vl1 vl1 ys ∧ Blk w8 X6 [.int .i64 wl, .int .i64 ws, .slice (some ⟨g5, 0, none⟩) vl1 vl1] ∧ OwnE 1 byC w8 w6.heap.size 5 (.slice a7 ((ptL wl ws ys).length) c8) (ptL wl ws ys)) := hide ((unhide KEPT) _ _ (unhide K) b)
  clear b
  have mPv0 : w8.cell? ⟨w.heap.size, 0, none⟩ = some (.int .i64 wl) := (unhide K).2.1.c 0 (by simp)
  have mPv1 : w8.cell? ⟨w.heap.size, 1, none⟩ = some (.int .i64 ws) := (unhide K).2.1.c 1 (by simp)
  have mPv2 : w8.cell? ⟨w.heap.size, 2, none⟩ = some (.slice va1 vl1 vc1) := (unhide K).2.1.c 2 (by simp)
  have mQXx00 : w8.cell? ⟨X6, 0, none⟩ = some (.int .i64 wl) := (unhide K).2.2.2.2.1.c 0 (by simp)
  have mQXx01 : w8.cell? ⟨X6, 1, none⟩ = some (.int .i64 ws) := (unhide K).2.2.2.2.1.c 1 (by simp)
  have mQXx02 : w8.cell? ⟨X6, 2, none⟩ = some (.slice (some ⟨g5, 0, none⟩) vl1 vl1) := (unhide K).2.2.2.2.1.c 2 (by simp)
  go_wp2_with fail
  clear mPv0 mPv1 mPv2 mQXx00 mQXx01 mQXx02
  have mQXx00 : w8.cell? ⟨X6, 0, none⟩ = some (.int .i64 wl) := (unhide K).2.2.2.2.1.c 0 (by simp)
  have mQXx01 : w8.cell? ⟨X6, 1, none⟩ = some (.int .i64 ws) := (unhide K).2.2.2.2.1.c 1 (by simp)
  have mQXx02 : w8.cell? ⟨X6, 2, none⟩ = some (.slice (some ⟨g5, 0, none⟩) vl1 vl1) := (unhide K).2.2.2.2.1.c 2 (by simp)
  have mPv0 : w8.cell? ⟨w.heap.size, 0, none⟩ = some (.int .i64 wl) := (unhide K).2.1.c 0 (by simp)
  have mPv1 : w8.cell? ⟨w.heap.size, 1, none⟩ = some (.int .i64 ws) := (unhide K).2.1.c 1 (by simp)
  have mPv2 : w8.cell? ⟨w.heap.size, 2, none⟩ = some (.slice va1 vl1 vc1) := (unhide K).2.1.c 2 (by simp)
  go_region_held3 (fun w' => w'.cell? ⟨X6, 0, none⟩ = some (.int .i64 wl) ∧ w'.cell? ⟨X6, 1, none⟩ = some (.int .i64 ws) ∧ w'.cell? ⟨X6, 2, none⟩ = some (.slice (some ⟨g5, 0, none⟩) vl1 vl1) ∧ w'.cell? ⟨w.heap.size, 0, none⟩ = some (.int .i64 wl) ∧ w'.cell? ⟨w.heap.size, 1, none⟩ = some (.int .i64 ws) ∧ w'.cell? ⟨w.heap.size, 2, none⟩ = some (.slice va1 vl1 vc1)) (go_keep)
    ((first
      | (go_at_call 11; refine (toWord16_own _ _ _ _ _ _ _ (by first | exact (unhide Rv).below (unhide K).1 | exact ((unhide Rv).below (unhide K).1).below (bel0d 1)) hv1).mono ?_; rintro x w9 ⟨⟨e9, rfl, oc⟩, b⟩; have IC := hide oc.read; clear oc; have S10 : Hid (w8.heap.size ≤ w9.heap.size) := hide b.size; have K := hide (show Below w.heap.size w w9 ∧ Blk w9 w.heap.size [.int .i64 wl, .int .i64 ws, .slice va1 vl1 vc1] ∧ OwnE 1 byC w9 w3.heap.size 5 (.slice a3 ((ptL wl ws ys).length) c4) (ptL wl ws ys) ∧ WdOwn w9 w4.heap.size (some ⟨g5, 0, none⟩) vl1 vl1 ys ∧ Blk w9 X6 [.int .i64 wl, .int .i64 ws, .slice (some ⟨g5, 0, none⟩) vl1 vl1] ∧ OwnE 1 byC w9 w6.heap.size 5 (.slice a7 ((ptL wl ws ys).length) c8) (ptL wl ws ys) from by first | exact (unhide KEPT) _ _ (unhide K) b | exact (unhide KEPT) _ _ ((unhide KEPT) _ _ (unhide K) (bel0d 1)) b); clear mQXx00 mQXx01 mQXx02 mPv0 mPv1 mPv2; have mQXx00 : w9.cell? ⟨X6, 0, none⟩ = some (.int .i64 wl) := (unhide K).2.2.2.2.1.c 0 (by simp); have mQXx01 : w9.cell? ⟨X6, 1, none⟩ = some (.int .i64 ws) := (unhide K).2.2.2.2.1.c 1 (by simp); have mQXx02 : w9.cell? ⟨X6, 2, none⟩ = some (.slice (some ⟨g5, 0, none⟩) vl1 vl1) := (unhide K).2.2.2.2.1.c 2 (by simp); have mPv0 : w9.cell? ⟨w.heap.size, 0, none⟩ = some (.int .i64 wl) := (unhide K).2.1.c 0 (by simp); have mPv1 : w9.cell? ⟨w.heap.size, 1, none⟩ = some (.int .i64 ws) := (unhide K).2.1.c 1 (by simp); have mPv2 : w9.cell? ⟨w.heap.size, 2, none⟩ = some (.slice va1 vl1 vc1) := (unhide K).2.1.c 2 (by simp); clear b)
      | (go_at_call 13; refine (eqWord16_same _ _ _ _ _ _ _ _ _ (by first | exact (unhide K).2.2.2.1.read | exact (unhide K).2.2.2.1.read.below (bel0d 1)) (by first | exact unhide IC | exact (unhide IC).below (bel0d 1))).mono ?_; rintro x w10 ⟨rfl, b⟩; clear IC; have S11 : Hid (w9.heap.size ≤ w10.heap.size) := hide b.size; have K := hide (show Below w.heap.size w w10 ∧ Blk w10 w.heap.size [.int .i64 wl, .int .i64 ws, .slice va1 vl1 vc1] ∧ OwnE 1 byC w10 w3.heap.size 5 (.slice a3 ((ptL wl ws ys).length) c4) (ptL wl ws ys) ∧ WdOwn w10 w4.heap.size (some ⟨g5, 0, none⟩) vl1 vl1 ys ∧ Blk w10 X6 [.int .i64 wl, .int .i64 ws, .slice (some ⟨g5, 0, none⟩) vl1 vl1] ∧ OwnE 1 byC w10 w6.heap.size 5 (.slice a7 ((ptL wl ws ys).length) c8) (ptL wl ws ys) from by first | exact (unhide KEPT) _ _ (unhide K) b | exact (unhide KEPT) _ _ ((unhide KEPT) _ _ (unhide K) (bel0d 1)) b); clear mQXx00 mQXx01 mQXx02 mPv0 mPv1 mPv2; have mQXx00 : w10.cell? ⟨X6, 0, none⟩ = some (.int .i64 wl) := (unhide K).2.2.2.2.1.c 0 (by simp); have mQXx01 : w10.cell? ⟨X6, 1, none⟩ = some (.int .i64 ws) := (unhide K).2.2.2.2.1.c 1 (by simp); have mQXx02 : w10.cell? ⟨X6, 2, none⟩ = some (.slice (some ⟨g5, 0, none⟩) vl1 vl1) := (unhide K).2.2.2.2.1.c 2 (by simp); have mPv0 : w10.cell? ⟨w.heap.size, 0, none⟩ = some (.int .i64 wl) := (unhide K).2.1.c 0 (by simp); have mPv1 : w10.cell? ⟨w.heap.size, 1, none⟩ = some (.int .i64 ws) := (unhide K).2.1.c 1 (by simp); have mPv2 : w10.cell? ⟨w.heap.size, 2, none⟩ = some (.slice va1 vl1 vc1) := (unhide K).2.1.c 2 (by simp); clear b)))
  clear mQXx00 mQXx01 mQXx02 mPv0 mPv1 mPv2
  have mPv0 : w10.cell? ⟨w.heap.size, 0, none⟩ = some (.int .i64 wl) := (unhide K).2.1.c 0 (by simp)
  have mPv1 : w10.cell? ⟨w.heap.size, 1, none⟩ = some (.int .i64 ws) := (unhide K).2.1.c 1 (by simp)
  have mPv2 : w10.cell? ⟨w.heap.size, 2, none⟩ = some (.slice va1 vl1 vc1) := (unhide K).2.1.c 2 (by simp)
  have mQXx00 : w10.cell? ⟨X6, 0, none⟩ = some (.int .i64 wl) := (unhide K).2.2.2.2.1.c 0 (by simp)
  have mQXx01 : w10.cell? ⟨X6, 1, none⟩ = some (.int .i64 ws) := (unhide K).2.2.2.2.1.c 1 (by simp)
  have mQXx02 : w10.cell? ⟨X6, 2, none⟩ = some (.slice (some ⟨g5, 0, none⟩) vl1 vl1) := (unhide K).2.2.2.2.1.c 2 (by simp)
  go_wp2_with fail
  clear mPv0 mPv1 mPv2 mQXx00 mQXx01 mQXx02
  refine (markWord16_own _ _ _ _ _ _ _ 1 _ (unhide K).2.2.2.1 (unhide Ev1) (hv1) (by omega) (by omega) _ _ (unhide LXx0) (by have zz := (unhide K).1.size; have s0 := unhide S0; have s1 := unhide S1; have s2 := unhide S2; have s3 := unhide S3; have s4 := unhide S4; have s5 := unhide S5; have s6 := unhide S6; have s7 := unhide S7; have s8 := unhide S8; have s9 := unhide S9; have s10 := unhide S10; have s11 := unhide S11; omega)).mono ?_
  rintro x w11 ⟨rfl, om, on⟩
  have S12 : Hid (w10.heap.size ≤ w11.heap.size) := hide on.size
  have K : Hid (Below w.heap.size w w11 ∧ Blk w11 w.heap.size [.int .i64 wl, .int .i64 ws, .slice va1 vl1 vc1] ∧ OwnE 1 byC w11 w3.heap.size 5 (.slice a3 ((ptL wl ws ys).length) c4) (ptL wl ws ys) ∧ Blk w11 X6 [.int .i64 wl, .int .i64 ws, .slice (some ⟨g5, 0, none⟩) vl1 vl1] ∧ OwnE 1 byC w11 w6.heap.size 5 (.slice a7 ((ptL wl ws ys).length) c8) (ptL wl ws ys)) := hide ⟨below_only (unhide K).1 on (by have s0 := unhide S0; have s1 := unhide S1; have s2 := unhide S2; have s3 := unhide S3; have s4 := unhide S4; have s5 := unhide S5; have s6 := unhide S6; have s7 := unhide S7; have s8 := unhide S8; have s9 := unhide S9; have s10 := unhide S10; have s11 := unhide S11; have s12 := unhide S12; omega) (Nat.le_refl _), (unhide K).2.1.only on (by have s0 := unhide S0; have s1 := unhide S1; have s2 := unhide S2; have s3 := unhide S3; have s4 := unhide S4; have s5 := unhide S5; have s6 := unhide S6; have s7 := unhide S7; have s8 := unhide S8; have s9 := unhide S9; have s10 := unhide S10; have s11 := unhide S11; have s12 := unhide S12; omega), (unhide K).2.2.1.only on (fun g hg => by have := (unhide LW0) g hg; have s0 := unhide S0; have s1 := unhide S1; have s2 := unhide S2; have s3 := unhide S3; have s4 := unhide S4; have s5 := unhide S5; have s6 := unhide S6; have s7 := unhide S7; have s8 := unhide S8; have s9 := unhide S9; have s10 := unhide S10; have s11 := unhide S11; have s12 := unhide S12; omega), (unhide K).2.2.2.2.1.only on (by have s0 := unhide S0; have s1 := unhide S1; have s2 := unhide S2; have s3 := unhide S3; have s4 := unhide S4; have s5 := unhide S5; have s6 := unhide S6; have s7 := unhide S7; have s8 := unhide S8; have s9 := unhide S9; have s10 := unhide S10; have s11 := unhide S11; have s12 := unhide S12; omega), (unhide K).2.2.2.2.2.only on (fun g hg => by have := (unhide LG0) g hg; have s0 := unhide S0; have s1 := unhide S1; have s2 := unhide S2; have s3 := unhide S3; have s4 := unhide S4; have s5 := unhide S5; have s6 := unhide S6; have s7 := unhide S7; have s8 := unhide S8; have s9 := unhide S9; have s10 := unhide S10; have s11 := unhide S11; have s12 := unhide S12; omega)⟩
  clear KEPT om on
  have KEPT : Hid (∀ W u3, (Below w.heap.size w W ∧ Blk W w.heap.size [.int .i64 wl, .int .i64 ws, .slice va1 vl1 vc1] ∧ OwnE 1 byC W w3.heap.size 5 (.slice a3 ((ptL wl ws ys).length) c4) (ptL wl ws ys) ∧ Blk W X6 [.int .i64 wl, .int .i64 ws, .slice (some ⟨g5, 0, none⟩) vl1 vl1] ∧ OwnE 1 byC W w6.heap.size 5 (.slice a7 ((ptL wl ws ys).length) c8) (ptL wl ws ys)) → Below W.heap.size W u3 → (Below w.heap.size w u3 ∧ Blk u3 w.heap.size [.int .i64 wl, .int .i64 ws, .slice va1 vl1 vc1] ∧ OwnE 1 byC u3 w3.heap.size 5 (.slice a3 ((ptL wl ws ys).length) c4) (ptL wl ws ys) ∧ Blk u3 X6 [.int .i64 wl, .int .i64 ws, .slice (some ⟨g5, 0, none⟩) vl1 vl1] ∧ OwnE 1 byC u3 w6.heap.size 5 (.slice a7 ((ptL wl ws ys).length) c8) (ptL wl ws ys))) := hide (fun W u3 h b => ⟨h.1.trans (b.mono h.1.size), h.2.1.below b, h.2.2.1.below b, h.2.2.2.1.below b, h.2.2.2.2.below b⟩)
  have nk11 : ¬ (1 + (vl1 : Int) < 0) := by omega
  have mPv0 : w11.cell? ⟨w.heap.size, 0, none⟩ = some (.int .i64 wl) := (unhide K).2.1.c 0 (by simp)
  have mPv1 : w11.cell? ⟨w.heap.size, 1, none⟩ = some (.int .i64 ws) := (unhide K).2.1.c 1 (by simp)
  have mPv2 : w11.cell? ⟨w.heap.size, 2, none⟩ = some (.slice va1 vl1 vc1) := (unhide K).2.1.c 2 (by simp)
  have mQXx00 : w11.cell? ⟨X6, 0, none⟩ = some (.int .i64 wl) := (unhide K).2.2.2.1.c 0 (by simp)
  have mQXx01 : w11.cell? ⟨X6, 1, none⟩ = some (.int .i64 ws) := (unhide K).2.2.2.1.c 1 (by simp)
  have mQXx02 : w11.cell? ⟨X6, 2, none⟩ = some (.slice (some ⟨g5, 0, none⟩) vl1 vl1) := (unhide K).2.2.2.1.c 2 (by simp)
  go_wp2_with fail
  clear mPv0 mPv1 mPv2 mQXx00 mQXx01 mQXx02
  refine (eqByteS_same _ _ _ _ _ _ _ _ (unhide K).2.2.2.2.row (unhide K).2.2.1.row).mono ?_
  rintro x w12 ⟨rfl, b⟩
  have S13 : Hid (w11.heap.size ≤ w12.heap.size) := hide b.size
  have K : Hid (Below w.heap.size w w12 ∧ Blk w12 w.heap.size [.int .i64 wl, .int .i64 ws, .slice va1 vl1 vc1] ∧ OwnE 1 byC w12 w3.heap.size 5 (.slice a3 ((ptL wl ws ys).length) c4) (ptL wl ws ys) ∧ Blk w12 X6 [.int .i64 wl, .int .i64 ws, .slice (some ⟨g5, 0, none⟩) vl1 vl1] ∧ OwnE 1 byC w12 w6.heap.size 5 (.slice a7 ((ptL wl ws ys).length) c8) (ptL wl ws ys)) := hide ((unhide KEPT) _ _ (unhide K) b)
  clear b
  have mPv0 : w12.cell? ⟨w.heap.size, 0, none⟩ = some (.int .i64 wl) := (unhide K).2.1.c 0 (by simp)
  have mPv1 : w12.cell? ⟨w.heap.size, 1, none⟩ = some (.int .i64 ws) := (unhide K).2.1.c 1 (by simp)
  have mPv2 : w12.cell? ⟨w.heap.size, 2, none⟩ = some (.slice va1 vl1 vc1) := (unhide K).2.1.c 2 (by simp)
  have mQXx00 : w12.cell? ⟨X6, 0, none⟩ = some (.int .i64 wl) := (unhide K).2.2.2.1.c 0 (by simp)
  have mQXx01 : w12.cell? ⟨X6, 1, none⟩ = some (.int .i64 ws) := (unhide K).2.2.2.1.c 1 (by simp)
  have mQXx02 : w12.cell? ⟨X6, 2, none⟩ = some (.slice (some ⟨g5, 0, none⟩) vl1 vl1) := (unhide K).2.2.2.1.c 2 (by simp)
  go_wp2_with fail
  clear mPv0 mPv1 mPv2 mQXx00 mQXx01 mQXx02
  refine (markByteS_any _ _ _ _ _ 1 _ (unhide K).2.2.2.2 (rfl) (by have := hfl; omega) (by omega) (by omega)).mono ?_
  rintro x w13 ⟨rfl, om, gr⟩
  have on := Only.of_row (lo := w6.heap.size) (hi := w7.heap.size) gr (unhide LG0)
  have S14 : Hid (w12.heap.size ≤ w13.heap.size) := hide on.size
  have K : Hid (Below w.heap.size w w13 ∧ Blk w13 w.heap.size [.int .i64 wl, .int .i64 ws, .slice va1 vl1 vc1] ∧ OwnE 1 byC w13 w3.heap.size 5 (.slice a3 ((ptL wl ws ys).length) c4) (ptL wl ws ys) ∧ Blk w13 X6 [.int .i64 wl, .int .i64 ws, .slice (some ⟨g5, 0, none⟩) vl1 vl1] ∧ OwnE 1 byC w13 w6.heap.size 5 (.slice a7 ((ptL wl ws ys).length) c8) (markBy (ptL wl ws ys) 1 ((ptL wl ws ys).length))) := hide ⟨below_only (unhide K).1 on (by have s0 := unhide S0; have s1 := unhide S1; have s2 := unhide S2; have s3 := unhide S3; have s4 := unhide S4; have s5 := unhide S5; have s6 := unhide S6; have s7 := unhide S7; have s8 := unhide S8; have s9 := unhide S9; have s10 := unhide S10; have s11 := unhide S11; have s12 := unhide S12; have s13 := unhide S13; have s14 := unhide S14; omega) (Nat.le_refl _), (unhide K).2.1.only on (by have s0 := unhide S0; have s1 := unhide S1; have s2 := unhide S2; have s3 := unhide S3; have s4 := unhide S4; have s5 := unhide S5; have s6 := unhide S6; have s7 := unhide S7; have s8 := unhide S8; have s9 := unhide S9; have s10 := unhide S10; have s11 := unhide S11; have s12 := unhide S12; have s13 := unhide S13; have s14 := unhide S14; omega), (unhide K).2.2.1.only on (fun g hg => by have := (unhide LW0) g hg; have s0 := unhide S0; have s1 := unhide S1; have s2 := unhide S2; have s3 := unhide S3; have s4 := unhide S4; have s5 := unhide S5; have s6 := unhide S6; have s7 := unhide S7; have s8 := unhide S8; have s9 := unhide S9; have s10 := unhide S10; have s11 := unhide S11; have s12 := unhide S12; have s13 := unhide S13; have s14 := unhide S14; omega), (unhide K).2.2.2.1.only on (by have s0 := unhide S0; have s1 := unhide S1; have s2 := unhide S2; have s3 := unhide S3; have s4 := unhide S4; have s5 := unhide S5; have s6 := unhide S6; have s7 := unhide S7; have s8 := unhide S8; have s9 := unhide S9; have s10 := unhide S10; have s11 := unhide S11; have s12 := unhide S12; have s13 := unhide S13; have s14 := unhide S14; omega), om⟩
  clear KEPT om on gr
  have KEPT : Hid (∀ W u3, (Below w.heap.size w W ∧ Blk W w.heap.size [.int .i64 wl, .int .i64 ws, .slice va1 vl1 vc1] ∧ OwnE 1 byC W w3.heap.size 5 (.slice a3 ((ptL wl ws ys).length) c4) (ptL wl ws ys) ∧ Blk W X6 [.int .i64 wl, .int .i64 ws, .slice (some ⟨g5, 0, none⟩) vl1 vl1] ∧ OwnE 1 byC W w6.heap.size 5 (.slice a7 ((ptL wl ws ys).length) c8) (markBy (ptL wl ws ys) 1 ((ptL wl ws ys).length))) → Below W.heap.size W u3 → (Below w.heap.size w u3 ∧ Blk u3 w.heap.size [.int .i64 wl, .int .i64 ws, .slice va1 vl1 vc1] ∧ OwnE 1 byC u3 w3.heap.size 5 (.slice a3 ((ptL wl ws ys).length) c4) (ptL wl ws ys) ∧ Blk u3 X6 [.int .i64 wl, .int .i64 ws, .slice (some ⟨g5, 0, none⟩) vl1 vl1] ∧ OwnE 1 byC u3 w6.heap.size 5 (.slice a7 ((ptL wl ws ys).length) c8) (markBy (ptL wl ws ys) 1 ((ptL wl ws ys).length)))) := hide (fun W u3 h b => ⟨h.1.trans (b.mono h.1.size), h.2.1.below b, h.2.2.1.below b, h.2.2.2.1.below b, h.2.2.2.2.below b⟩)
  have mPv0 : w13.cell? ⟨w.heap.size, 0, none⟩ = some (.int .i64 wl) := (unhide K).2.1.c 0 (by simp)
  have mPv1 : w13.cell? ⟨w.heap.size, 1, none⟩ = some (.int .i64 ws) := (unhide K).2.1.c 1 (by simp)
  have mPv2 : w13.cell? ⟨w.heap.size, 2, none⟩ = some (.slice va1 vl1 vc1) := (unhide K).2.1.c 2 (by simp)
  have mQXx00 : w13.cell? ⟨X6, 0, none⟩ = some (.int .i64 wl) := (unhide K).2.2.2.1.c 0 (by simp)
  have mQXx01 : w13.cell? ⟨X6, 1, none⟩ = some (.int .i64 ws) := (unhide K).2.2.2.1.c 1 (by simp)
  have mQXx02 : w13.cell? ⟨X6, 2, none⟩ = some (.slice (some ⟨g5, 0, none⟩) vl1 vl1) := (unhide K).2.2.2.1.c 2 (by simp)
  go_wp2_with fail
  clear mPv0 mPv1 mPv2 mQXx00 mQXx01 mQXx02
  refine (heldByteS_any _ _ _ _ _ 1 _ (unhide K).2.2.2.2 (rfl) (by have := hfl; omega) (by omega) (by omega)).mono ?_
  rintro x w14 ⟨rfl, hw⟩
  have b : Below w13.heap.size w13 w14 := by rw [hw]; exact Below.refl _ _
  clear hw
  have S15 : Hid (w13.heap.size ≤ w14.heap.size) := hide b.size
  have K : Hid (Below w.heap.size w w14 ∧ Blk w14 w.heap.size [.int .i64 wl, .int .i64 ws, .slice va1 vl1 vc1] ∧ OwnE 1 byC w14 w3.heap.size 5 (.slice a3 ((ptL wl ws ys).length) c4) (ptL wl ws ys) ∧ Blk w14 X6 [.int .i64 wl, .int .i64 ws, .slice (some ⟨g5, 0, none⟩) vl1 vl1] ∧ OwnE 1 byC w14 w6.heap.size 5 (.slice a7 ((ptL wl ws ys).length) c8) (markBy (ptL wl ws ys) 1 ((ptL wl ws ys).length))) := hide ((unhide KEPT) _ _ (unhide K) b)
  clear b
  have nq14 : ¬ (1 + ((ptL wl ws ys).length : Int) < 0) := by omega
  have nn14 : (1 + ((ptL wl ws ys).length : Int) != 1 + ((ptL wl ws ys).length : Int)) = false := by simp
  have mPv0 : w14.cell? ⟨w.heap.size, 0, none⟩ = some (.int .i64 wl) := (unhide K).2.1.c 0 (by simp)
  have mPv1 : w14.cell? ⟨w.heap.size, 1, none⟩ = some (.int .i64 ws) := (unhide K).2.1.c 1 (by simp)
  have mPv2 : w14.cell? ⟨w.heap.size, 2, none⟩ = some (.slice va1 vl1 vc1) := (unhide K).2.1.c 2 (by simp)
  have mQXx00 : w14.cell? ⟨X6, 0, none⟩ = some (.int .i64 wl) := (unhide K).2.2.2.1.c 0 (by simp)
  have mQXx01 : w14.cell? ⟨X6, 1, none⟩ = some (.int .i64 ws) := (unhide K).2.2.2.1.c 1 (by simp)
  have mQXx02 : w14.cell? ⟨X6, 2, none⟩ = some (.slice (some ⟨g5, 0, none⟩) vl1 vl1) := (unhide K).2.2.2.1.c 2 (by simp)
  go_wp2_with fail
  clear mPv0 mPv1 mPv2 mQXx00 mQXx01 mQXx02
  refine (toWord16_own _ _ _ _ _ _ _ ((unhide Rv).below (unhide K).1) hv1).mono ?_
  rintro x w15 ⟨⟨g10, rfl, oc⟩, b⟩
  have LT15 : Hid (WdLies w14.heap.size w15.heap.size (some ⟨g10, 0, none⟩) vl1 vl1) := hide oc.lies
  have S16 : Hid (w14.heap.size ≤ w15.heap.size) := hide b.size
  have K : Hid (Below w.heap.size w w15 ∧ Blk w15 w.heap.size [.int .i64 wl, .int .i64 ws, .slice va1 vl1 vc1] ∧ OwnE 1 byC w15 w3.heap.size 5 (.slice a3 ((ptL wl ws ys).length) c4) (ptL wl ws ys) ∧ Blk w15 X6 [.int .i64 wl, .int .i64 ws, .slice (some ⟨g5, 0, none⟩) vl1 vl1] ∧ OwnE 1 byC w15 w6.heap.size 5 (.slice a7 ((ptL wl ws ys).length) c8) (markBy (ptL wl ws ys) 1 ((ptL wl ws ys).length))) := hide ((unhide KEPT) _ _ (unhide K) b)
  have K : Hid (Below w.heap.size w w15 ∧ Blk w15 w.heap.size [.int .i64 wl, .int .i64 ws, .slice va1 vl1 vc1] ∧ OwnE 1 byC w15 w3.heap.size 5 (.slice a3 ((ptL wl ws ys).length) c4) (ptL wl ws ys) ∧ Blk w15 X6 [.int .i64 wl, .int .i64 ws, .slice (some ⟨g5, 0, none⟩) vl1 vl1] ∧ OwnE 1 byC w15 w6.heap.size 5 (.slice a7 ((ptL wl ws ys).length) c8) (markBy (ptL wl ws ys) 1 ((ptL wl ws ys).length)) ∧ WdOwn w15 w14.heap.size (some ⟨g10, 0, none⟩) vl1 vl1 ys) := hide ⟨(unhide K).1, (unhide K).2.1, (unhide K).2.2.1, (unhide K).2.2.2.1, (unhide K).2.2.2.2, oc⟩
  clear KEPT oc b
  have KEPT : Hid (∀ W u3, (Below w.heap.size w W ∧ Blk W w.heap.size [.int .i64 wl, .int .i64 ws, .slice va1 vl1 vc1] ∧ OwnE 1 byC W w3.heap.size 5 (.slice a3 ((ptL wl ws ys).length) c4) (ptL wl ws ys) ∧ Blk W X6 [.int .i64 wl, .int .i64 ws, .slice (some ⟨g5, 0, none⟩) vl1 vl1] ∧ OwnE 1 byC W w6.heap.size 5 (.slice a7 ((ptL wl ws ys).length) c8) (markBy (ptL wl ws ys) 1 ((ptL wl ws ys).length)) ∧ WdOwn W w14.heap.size (some ⟨g10, 0, none⟩) vl1 vl1 ys) → Below W.heap.size W u3 → (Below w.heap.size w u3 ∧ Blk u3 w.heap.size [.int .i64 wl, .int .i64 ws, .slice va1 vl1 vc1] ∧ OwnE 1 byC u3 w3.heap.size 5 (.slice a3 ((ptL wl ws ys).length) c4) (ptL wl ws ys) ∧ Blk u3 X6 [.int .i64 wl, .int .i64 ws, .slice (some ⟨g5, 0, none⟩) vl1 vl1] ∧ OwnE 1 byC u3 w6.heap.size 5 (.slice a7 ((ptL wl ws ys).length) c8) (markBy (ptL wl ws ys) 1 ((ptL wl ws ys).length)) ∧ WdOwn u3 w14.heap.size (some ⟨g10, 0, none⟩) vl1 vl1 ys)) := hide (fun W u3 h b => ⟨h.1.trans (b.mono h.1.size), h.2.1.below b, h.2.2.1.below b, h.2.2.2.1.below b, h.2.2.2.2.1.below b, h.2.2.2.2.2.below b⟩)
  have mPv0 : w15.cell? ⟨w.heap.size, 0, none⟩ = some (.int .i64 wl) := (unhide K).2.1.c 0 (by simp)
  have mPv1 : w15.cell? ⟨w.heap.size, 1, none⟩ = some (.int .i64 ws) := (unhide K).2.1.c 1 (by simp)
  have mPv2 : w15.cell? ⟨w.heap.size, 2, none⟩ = some (.slice va1 vl1 vc1) := (unhide K).2.1.c 2 (by simp)
  have mQXx00 : w15.cell? ⟨X6, 0, none⟩ = some (.int .i64 wl) := (unhide K).2.2.2.1.c 0 (by simp)
  have mQXx01 : w15.cell? ⟨X6, 1, none⟩ = some (.int .i64 ws) := (unhide K).2.2.2.1.c 1 (by simp)
  have mQXx02 : w15.cell? ⟨X6, 2, none⟩ = some (.slice (some ⟨g5, 0, none⟩) vl1 vl1) := (unhide K).2.2.2.1.c 2 (by simp)
  go_wp2_with fail
  clear mPv0 mPv1 mPv2 mQXx00 mQXx01 mQXx02
  refine (implPut16_any _ _ _ _ _ _ _ (unhide K).2.2.2.2.2.read ).mono ?_
  rintro x w16 ⟨a11, c12, rfl, oH_0, b⟩
  have LH0 : Hid (∀ g, (Value.slice a11 ((ptL wl ws ys).length) c12).ownBlock = some g → w15.heap.size ≤ g ∧ g < w16.heap.size) := hide oH_0.lies
  have S17 : Hid (w15.heap.size ≤ w16.heap.size) := hide b.size
  have K : Hid (Below w.heap.size w w16 ∧ Blk w16 w.heap.size [.int .i64 wl, .int .i64 ws, .slice va1 vl1 vc1] ∧ OwnE 1 byC w16 w3.heap.size 5 (.slice a3 ((ptL wl ws ys).length) c4) (ptL wl ws ys) ∧ Blk w16 X6 [.int .i64 wl, .int .i64 ws, .slice (some ⟨g5, 0, none⟩) vl1 vl1] ∧ OwnE 1 byC w16 w6.heap.size 5 (.slice a7 ((ptL wl ws ys).length) c8) (markBy (ptL wl ws ys) 1 ((ptL wl ws ys).length)) ∧ WdOwn w16 w14.heap.size (some ⟨g10, 0, none⟩) vl1 vl1 ys) := hide ((unhide KEPT) _ _ (unhide K) b)
  have K : Hid (Below w.heap.size w w16 ∧ Blk w16 w.heap.size [.int .i64 wl, .int .i64 ws, .slice va1 vl1 vc1] ∧ OwnE 1 byC w16 w3.heap.size 5 (.slice a3 ((ptL wl ws ys).length) c4) (ptL wl ws ys) ∧ Blk w16 X6 [.int .i64 wl, .int .i64 ws, .slice (some ⟨g5, 0, none⟩) vl1 vl1] ∧ OwnE 1 byC w16 w6.heap.size 5 (.slice a7 ((ptL wl ws ys).length) c8) (markBy (ptL wl ws ys) 1 ((ptL wl ws ys).length)) ∧ WdOwn w16 w14.heap.size (some ⟨g10, 0, none⟩) vl1 vl1 ys ∧ OwnE 1 byC w16 w15.heap.size 5 (.slice a11 ((ptL wl ws ys).length) c12) (ptL wl ws ys)) := hide ⟨(unhide K).1, (unhide K).2.1, (unhide K).2.2.1, (unhide K).2.2.2.1, (unhide K).2.2.2.2.1, (unhide K).2.2.2.2.2, oH_0⟩
  clear KEPT
  have KEPT : Hid (∀ W u3, (Below w.heap.size w W ∧ Blk W w.heap.size [.int .i64 wl, .int .i64 ws, .slice va1 vl1 vc1] ∧ OwnE 1 byC W w3.heap.size 5 (.slice a3 ((ptL wl ws ys).length) c4) (ptL wl ws ys) ∧ Blk W X6 [.int .i64 wl, .int .i64 ws, .slice (some ⟨g5, 0, none⟩) vl1 vl1] ∧ OwnE 1 byC W w6.heap.size 5 (.slice a7 ((ptL wl ws ys).length) c8) (markBy (ptL wl ws ys) 1 ((ptL wl ws ys).length)) ∧ WdOwn W w14.heap.size (some ⟨g10, 0, none⟩) vl1 vl1 ys ∧ OwnE 1 byC W w15.heap.size 5 (.slice a11 ((ptL wl ws ys).length) c12) (ptL wl ws ys)) → Below W.heap.size W u3 → (Below w.heap.size w u3 ∧ Blk u3 w.heap.size [.int .i64 wl, .int .i64 ws, .slice va1 vl1 vc1] ∧ OwnE 1 byC u3 w3.heap.size 5 (.slice a3 ((ptL wl ws ys).length) c4) (ptL wl ws ys) ∧ Blk u3 X6 [.int .i64 wl, .int .i64 ws, .slice (some ⟨g5, 0, none⟩) vl1 vl1] ∧ OwnE 1 byC u3 w6.heap.size 5 (.slice a7 ((ptL wl ws ys).length) c8) (markBy (ptL wl ws ys) 1 ((ptL wl ws ys).length)) ∧ WdOwn u3 w14.heap.size (some ⟨g10, 0, none⟩) vl1 vl1 ys ∧ OwnE 1 byC u3 w15.heap.size 5 (.slice a11 ((ptL wl ws ys).length) c12) (ptL wl ws ys))) := hide (fun W u3 h b => ⟨h.1.trans (b.mono h.1.size), h.2.1.below b, h.2.2.1.below b, h.2.2.2.1.below b, h.2.2.2.2.1.below b, h.2.2.2.2.2.1.below b, h.2.2.2.2.2.2.below b⟩)
  clear oH_0
  clear b
  have K : Hid (Below w.heap.size w w16 ∧ Blk w16 w.heap.size [.int .i64 wl, .int .i64 ws, .slice va1 vl1 vc1] ∧ OwnE 1 byC w16 w3.heap.size 5 (.slice a3 ((ptL wl ws ys).length) c4) (ptL wl ws ys) ∧ Blk w16 X6 [.int .i64 wl, .int .i64 ws, .slice (some ⟨g5, 0, none⟩) vl1 vl1] ∧ OwnE 1 byC w16 w6.heap.size 5 (.slice a7 ((ptL wl ws ys).length) c8) (markBy (ptL wl ws ys) 1 ((ptL wl ws ys).length)) ∧ OwnE 1 byC w16 w15.heap.size 5 (.slice a11 ((ptL wl ws ys).length) c12) (ptL wl ws ys)) := hide ⟨(unhide K).1, (unhide K).2.1, (unhide K).2.2.1, (unhide K).2.2.2.1, (unhide K).2.2.2.2.1, (unhide K).2.2.2.2.2.2⟩
  clear KEPT
  have KEPT : Hid (∀ W u3, (Below w.heap.size w W ∧ Blk W w.heap.size [.int .i64 wl, .int .i64 ws, .slice va1 vl1 vc1] ∧ OwnE 1 byC W w3.heap.size 5 (.slice a3 ((ptL wl ws ys).length) c4) (ptL wl ws ys) ∧ Blk W X6 [.int .i64 wl, .int .i64 ws, .slice (some ⟨g5, 0, none⟩) vl1 vl1] ∧ OwnE 1 byC W w6.heap.size 5 (.slice a7 ((ptL wl ws ys).length) c8) (markBy (ptL wl ws ys) 1 ((ptL wl ws ys).length)) ∧ OwnE 1 byC W w15.heap.size 5 (.slice a11 ((ptL wl ws ys).length) c12) (ptL wl ws ys)) → Below W.heap.size W u3 → (Below w.heap.size w u3 ∧ Blk u3 w.heap.size [.int .i64 wl, .int .i64 ws, .slice va1 vl1 vc1] ∧ OwnE 1 byC u3 w3.heap.size 5 (.slice a3 ((ptL wl ws ys).length) c4) (ptL wl ws ys) ∧ Blk u3 X6 [.int .i64 wl, .int .i64 ws, .slice (some ⟨g5, 0, none⟩) vl1 vl1] ∧ OwnE 1 byC u3 w6.heap.size 5 (.slice a7 ((ptL wl ws ys).length) c8) (markBy (ptL wl ws ys) 1 ((ptL wl ws ys).length)) ∧ OwnE 1 byC u3 w15.heap.size 5 (.slice a11 ((ptL wl ws ys).length) c12) (ptL wl ws ys))) := hide (fun W u3 h b => ⟨h.1.trans (b.mono h.1.size), h.2.1.below b, h.2.2.1.below b, h.2.2.2.1.below b, h.2.2.2.2.1.below b, h.2.2.2.2.2.below b⟩)
  have mPv0 : w16.cell? ⟨w.heap.size, 0, none⟩ = some (.int .i64 wl) := (unhide K).2.1.c 0 (by simp)
  have mPv1 : w16.cell? ⟨w.heap.size, 1, none⟩ = some (.int .i64 ws) := (unhide K).2.1.c 1 (by simp)
  have mPv2 : w16.cell? ⟨w.heap.size, 2, none⟩ = some (.slice va1 vl1 vc1) := (unhide K).2.1.c 2 (by simp)
  have mQXx00 : w16.cell? ⟨X6, 0, none⟩ = some (.int .i64 wl) := (unhide K).2.2.2.1.c 0 (by simp)
  have mQXx01 : w16.cell? ⟨X6, 1, none⟩ = some (.int .i64 ws) := (unhide K).2.2.2.1.c 1 (by simp)
  have mQXx02 : w16.cell? ⟨X6, 2, none⟩ = some (.slice (some ⟨g5, 0, none⟩) vl1 vl1) := (unhide K).2.2.2.1.c 2 (by simp)
  go_wp2_with fail
  clear mPv0 mPv1 mPv2 mQXx00 mQXx01 mQXx02
  refine (eqByteS_same _ _ _ _ _ _ _ _ (unhide K).2.2.2.2.2.row (unhide K).2.2.1.row).mono ?_
  rintro x w17 ⟨rfl, b⟩
  have S18 : Hid (w16.heap.size ≤ w17.heap.size) := hide b.size
  have K : Hid (Below w.heap.size w w17 ∧ Blk w17 w.heap.size [.int .i64 wl, .int .i64 ws, .slice va1 vl1 vc1] ∧ OwnE 1 byC w17 w3.heap.size 5 (.slice a3 ((ptL wl ws ys).length) c4) (ptL wl ws ys) ∧ Blk w17 X6 [.int .i64 wl, .int .i64 ws, .slice (some ⟨g5, 0, none⟩) vl1 vl1] ∧ OwnE 1 byC w17 w6.heap.size 5 (.slice a7 ((ptL wl ws ys).length) c8) (markBy (ptL wl ws ys) 1 ((ptL wl ws ys).length)) ∧ OwnE 1 byC w17 w15.heap.size 5 (.slice a11 ((ptL wl ws ys).length) c12) (ptL wl ws ys)) := hide ((unhide KEPT) _ _ (unhide K) b)
  clear b
  have mPv0 : w17.cell? ⟨w.heap.size, 0, none⟩ = some (.int .i64 wl) := (unhide K).2.1.c 0 (by simp)
  have mPv1 : w17.cell? ⟨w.heap.size, 1, none⟩ = some (.int .i64 ws) := (unhide K).2.1.c 1 (by simp)
  have mPv2 : w17.cell? ⟨w.heap.size, 2, none⟩ = some (.slice va1 vl1 vc1) := (unhide K).2.1.c 2 (by simp)
  have mQXx00 : w17.cell? ⟨X6, 0, none⟩ = some (.int .i64 wl) := (unhide K).2.2.2.1.c 0 (by simp)
  have mQXx01 : w17.cell? ⟨X6, 1, none⟩ = some (.int .i64 ws) := (unhide K).2.2.2.1.c 1 (by simp)
  have mQXx02 : w17.cell? ⟨X6, 2, none⟩ = some (.slice (some ⟨g5, 0, none⟩) vl1 vl1) := (unhide K).2.2.2.1.c 2 (by simp)
  go_wp2_with fail
  clear mPv0 mPv1 mPv2 mQXx00 mQXx01 mQXx02
  refine (heldByteS_any _ _ _ _ _ 1 _ (unhide K).2.2.2.2.1 (rfl) (by have := hfl; omega) (by omega) (by omega)).mono ?_
  rintro x w18 ⟨rfl, hw⟩
  have b : Below w17.heap.size w17 w18 := by rw [hw]; exact Below.refl _ _
  clear hw
  have S19 : Hid (w17.heap.size ≤ w18.heap.size) := hide b.size
  have K : Hid (Below w.heap.size w w18 ∧ Blk w18 w.heap.size [.int .i64 wl, .int .i64 ws, .slice va1 vl1 vc1] ∧ OwnE 1 byC w18 w3.heap.size 5 (.slice a3 ((ptL wl ws ys).length) c4) (ptL wl ws ys) ∧ Blk w18 X6 [.int .i64 wl, .int .i64 ws, .slice (some ⟨g5, 0, none⟩) vl1 vl1] ∧ OwnE 1 byC w18 w6.heap.size 5 (.slice a7 ((ptL wl ws ys).length) c8) (markBy (ptL wl ws ys) 1 ((ptL wl ws ys).length)) ∧ OwnE 1 byC w18 w15.heap.size 5 (.slice a11 ((ptL wl ws ys).length) c12) (ptL wl ws ys)) := hide ((unhide KEPT) _ _ (unhide K) b)
  clear b
  have nq18 : ¬ (1 + ((ptL wl ws ys).length : Int) < 0) := by omega
  have nn18 : (1 + ((ptL wl ws ys).length : Int) != 1 + ((ptL wl ws ys).length : Int)) = false := by simp
  have mPv0 : w18.cell? ⟨w.heap.size, 0, none⟩ = some (.int .i64 wl) := (unhide K).2.1.c 0 (by simp)
  have mPv1 : w18.cell? ⟨w.heap.size, 1, none⟩ = some (.int .i64 ws) := (unhide K).2.1.c 1 (by simp)
  have mPv2 : w18.cell? ⟨w.heap.size, 2, none⟩ = some (.slice va1 vl1 vc1) := (unhide K).2.1.c 2 (by simp)
  have mQXx00 : w18.cell? ⟨X6, 0, none⟩ = some (.int .i64 wl) := (unhide K).2.2.2.1.c 0 (by simp)
  have mQXx01 : w18.cell? ⟨X6, 1, none⟩ = some (.int .i64 ws) := (unhide K).2.2.2.1.c 1 (by simp)
  have mQXx02 : w18.cell? ⟨X6, 2, none⟩ = some (.slice (some ⟨g5, 0, none⟩) vl1 vl1) := (unhide K).2.2.2.1.c 2 (by simp)
  go_wp2_with fail
  clear mPv0 mPv1 mPv2 mQXx00 mQXx01 mQXx02
  go_ret
  exact ⟨rfl, (unhide K).1⟩
end Go.Proofs.Ytnhcmokkankcmay
