/-
  The law FnExactGet16 returns true at every argument and writes nothing that was there: the walk. No condition.
-/
import Derived.Test.YtnhcmokkankcmayWdMark
import Derived.Test.YtnhcmokkankcmayBuGetAny
import Derived.Test.YtnhcmokkankcmayOnly
import Derived.Deep.RegionHeld3
namespace Go.Proofs.Ytnhcmokkankcmay
open Go.RowKit
set_option maxRecDepth 20000 in
set_option maxHeartbeats 8000000 in
theorem lawGet16 (da1 : Option Addr) (dl1 dc1 : Nat) (ys : List Int) (w : World) (hrd : RowE 1 byC w da1 dl1 ys) (hbi : ∀ i, i < dl1 → 0 ≤ elAt ys i ∧ elAt ys i ≤ 255) :
    Calls Try.prog 5 #[.slice da1 dl1 dc1] w fun x w' => x = .returned (.bool true) ∧ Below w.heap.size w w' := by
  have Rd := hide hrd
  have smd1 := hrd.small
  have Ed1 := hide hrd.len_eq
  clear hrd
  have HBI := hide hbi
  clear hbi
  by_cases gd : (1048576 : Int) < dl1
  · go_enter Try.func5, Try.ntmps5
    go_wp2_with fail
    go_ret
    exact ⟨rfl, Below.refl _ _⟩
  have hd1 : dl1 ≤ 1048576 := by omega
  have hq0 : (gtC ys != gtC ys) = false := by simp
  have hq1 : (gtL ys != gtL ys) = false := by simp
  have hq2 : (gtS ys != gtS ys) = false := by simp
  have hfl : (gtD ys).length ≤ 32 := gtD_small ys
  go_enter Try.func5, Try.ntmps5
  go_wp2_with fail
  have K : Hid (Below w.heap.size w w) := hide (Below.refl _ _)
  have KEPT : Hid (∀ W u3, (Below w.heap.size w W) → Below W.heap.size W u3 → (Below w.heap.size w u3)) := hide (fun W u3 h b => h.trans (b.mono h.size))
  obtain ⟨g1, hg1⟩ : ∃ G, w.heap.size = G := ⟨_, rfl⟩
  refine (toByteS_own _ _ _ _ _ ((unhide Rd).below (unhide K)) hd1).mono ?_
  rintro x w1 ⟨rfl, oc, b⟩
  rw [hg1] at oc ⊢
  have Bg1 := hide hg1
  clear hg1
  have LT1 : Hid (∀ g, (Value.slice (some ⟨g1, 0, none⟩) dl1 dl1).ownBlock = some g → w.heap.size ≤ g ∧ g < w1.heap.size) := hide (by have e := unhide Bg1; have l := oc.lies; rw [← e] at l ⊢; exact l)
  have S0 : Hid (w.heap.size ≤ w1.heap.size) := hide b.size
  have K : Hid (Below w.heap.size w w1) := hide ((unhide KEPT) _ _ (unhide K) b)
  have K : Hid (Below w.heap.size w w1 ∧ OwnE 1 byC w1 w.heap.size 5 (.slice (some ⟨g1, 0, none⟩) dl1 dl1) ys) := hide ⟨(unhide K), (by have e := unhide Bg1; rw [e]; exact oc)⟩
  clear KEPT oc b
  have KEPT : Hid (∀ W u3, (Below w.heap.size w W ∧ OwnE 1 byC W w.heap.size 5 (.slice (some ⟨g1, 0, none⟩) dl1 dl1) ys) → Below W.heap.size W u3 → (Below w.heap.size w u3 ∧ OwnE 1 byC u3 w.heap.size 5 (.slice (some ⟨g1, 0, none⟩) dl1 dl1) ys)) := hide (fun W u3 h b => ⟨h.1.trans (b.mono h.1.size), h.2.below b⟩)
  go_wp2_with fail
  refine (specGet16_any _ _ _ _ _ (unhide K).2.row (unhide HBI) (Nat.le_refl _)).mono ?_
  rintro x w2 ⟨a2, c3, rfl, oW_0, b⟩
  have LW0 : Hid (WdLies w1.heap.size w2.heap.size a2 ((gtD ys).length) c3) := hide oW_0.lies
  have S1 : Hid (w1.heap.size ≤ w2.heap.size) := hide b.size
  have K : Hid (Below w.heap.size w w2 ∧ OwnE 1 byC w2 w.heap.size 5 (.slice (some ⟨g1, 0, none⟩) dl1 dl1) ys) := hide ((unhide KEPT) _ _ (unhide K) b)
  have K : Hid (Below w.heap.size w w2 ∧ OwnE 1 byC w2 w.heap.size 5 (.slice (some ⟨g1, 0, none⟩) dl1 dl1) ys ∧ WdOwn w2 w1.heap.size a2 ((gtD ys).length) c3 (gtD ys)) := hide ⟨(unhide K).1, (unhide K).2, oW_0⟩
  clear KEPT
  have KEPT : Hid (∀ W u3, (Below w.heap.size w W ∧ OwnE 1 byC W w.heap.size 5 (.slice (some ⟨g1, 0, none⟩) dl1 dl1) ys ∧ WdOwn W w1.heap.size a2 ((gtD ys).length) c3 (gtD ys)) → Below W.heap.size W u3 → (Below w.heap.size w u3 ∧ OwnE 1 byC u3 w.heap.size 5 (.slice (some ⟨g1, 0, none⟩) dl1 dl1) ys ∧ WdOwn u3 w1.heap.size a2 ((gtD ys).length) c3 (gtD ys))) := hide (fun W u3 h b => ⟨h.1.trans (b.mono h.1.size), h.2.1.below b, h.2.2.below b⟩)
  clear oW_0
  clear b
  have K : Hid (Below w.heap.size w w2 ∧ WdOwn w2 w1.heap.size a2 ((gtD ys).length) c3 (gtD ys)) := hide ⟨(unhide K).1, (unhide K).2.2⟩
  clear KEPT
  have KEPT : Hid (∀ W u3, (Below w.heap.size w W ∧ WdOwn W w1.heap.size a2 ((gtD ys).length) c3 (gtD ys)) → Below W.heap.size W u3 → (Below w.heap.size w u3 ∧ WdOwn u3 w1.heap.size a2 ((gtD ys).length) c3 (gtD ys))) := hide (fun W u3 h b => ⟨h.1.trans (b.mono h.1.size), h.2.below b⟩)
  obtain ⟨w3, hw3⟩ : ∃ V, V = w2.alloc (Obj.cells #[.int .i64 (gtL ys), .int .i64 (gtS ys), .slice a2 ((gtD ys).length) c3] 27) := ⟨_, rfl⟩
  have b : Below w2.heap.size w2 w3 := by rw [hw3]; exact bel1 _
  have kx : Blk w3 w2.heap.size [.int .i64 (gtL ys), .int .i64 (gtS ys), .slice a2 ((gtD ys).length) c3] := by rw [hw3]; exact Blk.new _ _
  have S2 : Hid (w2.heap.size + 1 ≤ w3.heap.size) := hide (by rw [hw3]; simp)
  have S3 : Hid (w2.heap.size ≤ w3.heap.size) := hide b.size
  have K : Hid (Below w.heap.size w w3 ∧ WdOwn w3 w1.heap.size a2 ((gtD ys).length) c3 (gtD ys)) := hide ((unhide KEPT) _ _ (unhide K) b)
  obtain ⟨X4, hX4⟩ : ∃ X, w2.heap.size = X := ⟨_, rfl⟩
  rw [hX4] at kx
  have S4 : Hid (w2.heap.size = X4) := hide hX4
  have K : Hid (Below w.heap.size w w3 ∧ WdOwn w3 w1.heap.size a2 ((gtD ys).length) c3 (gtD ys) ∧ Blk w3 X4 [.int .i64 (gtL ys), .int .i64 (gtS ys), .slice a2 ((gtD ys).length) c3]) := hide ⟨(unhide K).1, (unhide K).2, kx⟩
  clear KEPT b kx
  have KEPT : Hid (∀ W u3, (Below w.heap.size w W ∧ WdOwn W w1.heap.size a2 ((gtD ys).length) c3 (gtD ys) ∧ Blk W X4 [.int .i64 (gtL ys), .int .i64 (gtS ys), .slice a2 ((gtD ys).length) c3]) → Below W.heap.size W u3 → (Below w.heap.size w u3 ∧ WdOwn u3 w1.heap.size a2 ((gtD ys).length) c3 (gtD ys) ∧ Blk u3 X4 [.int .i64 (gtL ys), .int .i64 (gtS ys), .slice a2 ((gtD ys).length) c3])) := hide (fun W u3 h b => ⟨h.1.trans (b.mono h.1.size), h.2.1.below b, h.2.2.below b⟩)
  have Hw3 := hide hw3
  have HX4 := hide hX4
  clear hw3 hX4
  go_wp2_with fail
  try rw [← unhide Hw3]
  try rw [unhide HX4]
  clear Hw3 HX4 
  obtain ⟨g5, hg5⟩ : ∃ G, w3.heap.size = G := ⟨_, rfl⟩
  refine (toByteS_own _ _ _ _ _ ((unhide Rd).below (unhide K).1) hd1).mono ?_
  rintro x w4 ⟨rfl, oc, b⟩
  rw [hg5] at oc ⊢
  have Bg5 := hide hg5
  clear hg5
  have LXx0 : Hid (∀ g, (Value.slice (some ⟨g5, 0, none⟩) dl1 dl1).ownBlock = some g → w3.heap.size ≤ g ∧ g < w4.heap.size) := hide (by have e := unhide Bg5; have l := oc.lies; rw [← e] at l ⊢; exact l)
  have S5 : Hid (w3.heap.size ≤ w4.heap.size) := hide b.size
  have K : Hid (Below w.heap.size w w4 ∧ WdOwn w4 w1.heap.size a2 ((gtD ys).length) c3 (gtD ys) ∧ Blk w4 X4 [.int .i64 (gtL ys), .int .i64 (gtS ys), .slice a2 ((gtD ys).length) c3]) := hide ((unhide KEPT) _ _ (unhide K) b)
  have K : Hid (Below w.heap.size w w4 ∧ WdOwn w4 w1.heap.size a2 ((gtD ys).length) c3 (gtD ys) ∧ Blk w4 X4 [.int .i64 (gtL ys), .int .i64 (gtS ys), .slice a2 ((gtD ys).length) c3] ∧ OwnE 1 byC w4 w3.heap.size 5 (.slice (some ⟨g5, 0, none⟩) dl1 dl1) ys) := hide ⟨(unhide K).1, (unhide K).2.1, (unhide K).2.2, (by have e := unhide Bg5; rw [e]; exact oc)⟩
  clear KEPT oc b
  have KEPT : Hid (∀ W u3, (Below w.heap.size w W ∧ WdOwn W w1.heap.size a2 ((gtD ys).length) c3 (gtD ys) ∧ Blk W X4 [.int .i64 (gtL ys), .int .i64 (gtS ys), .slice a2 ((gtD ys).length) c3] ∧ OwnE 1 byC W w3.heap.size 5 (.slice (some ⟨g5, 0, none⟩) dl1 dl1) ys) → Below W.heap.size W u3 → (Below w.heap.size w u3 ∧ WdOwn u3 w1.heap.size a2 ((gtD ys).length) c3 (gtD ys) ∧ Blk u3 X4 [.int .i64 (gtL ys), .int .i64 (gtS ys), .slice a2 ((gtD ys).length) c3] ∧ OwnE 1 byC u3 w3.heap.size 5 (.slice (some ⟨g5, 0, none⟩) dl1 dl1) ys)) := hide (fun W u3 h b => ⟨h.1.trans (b.mono h.1.size), h.2.1.below b, h.2.2.1.below b, h.2.2.2.below b⟩)
  have mQW00 : w4.cell? ⟨X4, 0, none⟩ = some (.int .i64 (gtL ys)) := (unhide K).2.2.1.c 0 (by simp)
  have mQW01 : w4.cell? ⟨X4, 1, none⟩ = some (.int .i64 (gtS ys)) := (unhide K).2.2.1.c 1 (by simp)
  have mQW02 : w4.cell? ⟨X4, 2, none⟩ = some (.slice a2 ((gtD ys).length) c3) := (unhide K).2.2.1.c 2 (by simp)
  go_wp2_with fail
  clear mQW00 mQW01 mQW02
  refine (implGet16_any _ _ _ _ _ (unhide K).2.2.2.row (unhide HBI) (Nat.le_refl _)).mono ?_
  rintro x w5 ⟨a6, c7, rfl, oG_0, b⟩
  have LG0 : Hid (WdLies w4.heap.size w5.heap.size a6 ((gtD ys).length) c7) := hide oG_0.lies
  have S6 : Hid (w4.heap.size ≤ w5.heap.size) := hide b.size
  have K : Hid (Below w.heap.size w w5 ∧ WdOwn w5 w1.heap.size a2 ((gtD ys).length) c3 (gtD ys) ∧ Blk w5 X4 [.int .i64 (gtL ys), .int .i64 (gtS ys), .slice a2 ((gtD ys).length) c3] ∧ OwnE 1 byC w5 w3.heap.size 5 (.slice (some ⟨g5, 0, none⟩) dl1 dl1) ys) := hide ((unhide KEPT) _ _ (unhide K) b)
  have K : Hid (Below w.heap.size w w5 ∧ WdOwn w5 w1.heap.size a2 ((gtD ys).length) c3 (gtD ys) ∧ Blk w5 X4 [.int .i64 (gtL ys), .int .i64 (gtS ys), .slice a2 ((gtD ys).length) c3] ∧ OwnE 1 byC w5 w3.heap.size 5 (.slice (some ⟨g5, 0, none⟩) dl1 dl1) ys ∧ WdOwn w5 w4.heap.size a6 ((gtD ys).length) c7 (gtD ys)) := hide ⟨(unhide K).1, (unhide K).2.1, (unhide K).2.2.1, (unhide K).2.2.2, oG_0⟩
  clear KEPT
  have KEPT : Hid (∀ W u3, (Below w.heap.size w W ∧ WdOwn W w1.heap.size a2 ((gtD ys).length) c3 (gtD ys) ∧ Blk W X4 [.int .i64 (gtL ys), .int .i64 (gtS ys), .slice a2 ((gtD ys).length) c3] ∧ OwnE 1 byC W w3.heap.size 5 (.slice (some ⟨g5, 0, none⟩) dl1 dl1) ys ∧ WdOwn W w4.heap.size a6 ((gtD ys).length) c7 (gtD ys)) → Below W.heap.size W u3 → (Below w.heap.size w u3 ∧ WdOwn u3 w1.heap.size a2 ((gtD ys).length) c3 (gtD ys) ∧ Blk u3 X4 [.int .i64 (gtL ys), .int .i64 (gtS ys), .slice a2 ((gtD ys).length) c3] ∧ OwnE 1 byC u3 w3.heap.size 5 (.slice (some ⟨g5, 0, none⟩) dl1 dl1) ys ∧ WdOwn u3 w4.heap.size a6 ((gtD ys).length) c7 (gtD ys))) := hide (fun W u3 h b => ⟨h.1.trans (b.mono h.1.size), h.2.1.below b, h.2.2.1.below b, h.2.2.2.1.below b, h.2.2.2.2.below b⟩)
  clear oG_0
  clear b
  obtain ⟨w6, hw6⟩ : ∃ V, V = w5.alloc (Obj.cells #[.int .i64 (gtL ys), .int .i64 (gtS ys), .slice a6 ((gtD ys).length) c7] 27) := ⟨_, rfl⟩
  have b : Below w5.heap.size w5 w6 := by rw [hw6]; exact bel1 _
  have kx : Blk w6 w5.heap.size [.int .i64 (gtL ys), .int .i64 (gtS ys), .slice a6 ((gtD ys).length) c7] := by rw [hw6]; exact Blk.new _ _
  have S7 : Hid (w5.heap.size + 1 ≤ w6.heap.size) := hide (by rw [hw6]; simp)
  have S8 : Hid (w5.heap.size ≤ w6.heap.size) := hide b.size
  have K : Hid (Below w.heap.size w w6 ∧ WdOwn w6 w1.heap.size a2 ((gtD ys).length) c3 (gtD ys) ∧ Blk w6 X4 [.int .i64 (gtL ys), .int .i64 (gtS ys), .slice a2 ((gtD ys).length) c3] ∧ OwnE 1 byC w6 w3.heap.size 5 (.slice (some ⟨g5, 0, none⟩) dl1 dl1) ys ∧ WdOwn w6 w4.heap.size a6 ((gtD ys).length) c7 (gtD ys)) := hide ((unhide KEPT) _ _ (unhide K) b)
  have mQW00 : w6.cell? ⟨X4, 0, none⟩ = some (.int .i64 (gtL ys)) := (unhide K).2.2.1.c 0 (by simp)
  have mQW01 : w6.cell? ⟨X4, 1, none⟩ = some (.int .i64 (gtS ys)) := (unhide K).2.2.1.c 1 (by simp)
  have mQW02 : w6.cell? ⟨X4, 2, none⟩ = some (.slice a2 ((gtD ys).length) c3) := (unhide K).2.2.1.c 2 (by simp)
  rw [hw6] at mQW00 mQW01 mQW02
  obtain ⟨X8, hX8⟩ : ∃ X, w5.heap.size = X := ⟨_, rfl⟩
  rw [hX8] at kx
  have S9 : Hid (w5.heap.size = X8) := hide hX8
  have K : Hid (Below w.heap.size w w6 ∧ WdOwn w6 w1.heap.size a2 ((gtD ys).length) c3 (gtD ys) ∧ Blk w6 X4 [.int .i64 (gtL ys), .int .i64 (gtS ys), .slice a2 ((gtD ys).length) c3] ∧ OwnE 1 byC w6 w3.heap.size 5 (.slice (some ⟨g5, 0, none⟩) dl1 dl1) ys ∧ WdOwn w6 w4.heap.size a6 ((gtD ys).length) c7 (gtD ys) ∧ Blk w6 X8 [.int .i64 (gtL ys), .int .i64 (gtS ys), .slice a6 ((gtD ys).length) c7]) := hide ⟨(unhide K).1, (unhide K).2.1, (unhide K).2.2.1, (unhide K).2.2.2.1, (unhide K).2.2.2.2, kx⟩
  clear KEPT b kx
  have KEPT : Hid (∀ W u3, (Below w.heap.size w W ∧ WdOwn W w1.heap.size a2 ((gtD ys).length) c3 (gtD ys) ∧ Blk W X4 [.int .i64 (gtL ys), .int .i64 (gtS ys), .slice a2 ((gtD ys).length) c3] ∧ OwnE 1 byC W w3.heap.size 5 (.slice (some ⟨g5, 0, none⟩) dl1 dl1) ys ∧ WdOwn W w4.heap.size a6 ((gtD ys).length) c7 (gtD ys) ∧ Blk W X8 [.int .i64 (gtL ys), .int .i64 (gtS ys), .slice a6 ((gtD ys).length) c7]) → Below W.heap.size W u3 → (Below w.heap.size w u3 ∧ WdOwn u3 w1.heap.size a2 ((gtD ys).length) c3 (gtD ys) ∧ Blk u3 X4 [.int .i64 (gtL ys), .int .i64 (gtS ys), .slice a2 ((gtD ys).length) c3] ∧ OwnE 1 byC u3 w3.heap.size 5 (.slice (some ⟨g5, 0, none⟩) dl1 dl1) ys ∧ WdOwn u3 w4.heap.size a6 ((gtD ys).length) c7 (gtD ys) ∧ Blk u3 X8 [.int .i64 (gtL ys), .int .i64 (gtS ys), .slice a6 ((gtD ys).length) c7])) := hide (fun W u3 h b => ⟨h.1.trans (b.mono h.1.size), h.2.1.below b, h.2.2.1.below b, h.2.2.2.1.below b, h.2.2.2.2.1.below b, h.2.2.2.2.2.below b⟩)
  have Hw6 := hide hw6
  have HX8 := hide hX8
  clear hw6 hX8
  go_wp2_with fail
  try rw [← unhide Hw6]
  try rw [unhide HX8]
  clear Hw6 HX8 mQW00 mQW01 mQW02
  refine (eqWord16_same _ _ _ _ _ _ _ _ _ (unhide K).2.2.2.2.1.read (unhide K).2.1.read).mono ?_
  rintro x w7 ⟨rfl, b⟩
  have S10 : Hid (w6.heap.size ≤ w7.heap.size) := hide b.size
  have K : Hid (Below w.heap.size w w7 ∧ WdOwn w7 w1.heap.size a2 ((gtD ys).length) c3 (gtD ys) ∧ Blk w7 X4 [.int .i64 (gtL ys), .int .i64 (gtS ys), .slice a2 ((gtD ys).length) c3] ∧ OwnE 1 byC w7 w3.heap.size 5 (.slice (some ⟨g5, 0, none⟩) dl1 dl1) ys ∧ WdOwn w7 w4.heap.size a6 ((gtD ys).length) c7 (gtD ys) ∧ Blk w7 X8 [.int .i64 (gtL ys), .int .i64 (gtS ys), .slice a6 ((gtD ys).length) c7]) := hide ((unhide KEPT) _ _ (unhide K) b)
  clear b
  have mQW00 : w7.cell? ⟨X4, 0, none⟩ = some (.int .i64 (gtL ys)) := (unhide K).2.2.1.c 0 (by simp)
  have mQW01 : w7.cell? ⟨X4, 1, none⟩ = some (.int .i64 (gtS ys)) := (unhide K).2.2.1.c 1 (by simp)
  have mQW02 : w7.cell? ⟨X4, 2, none⟩ = some (.slice a2 ((gtD ys).length) c3) := (unhide K).2.2.1.c 2 (by simp)
  have mQG00 : w7.cell? ⟨X8, 0, none⟩ = some (.int .i64 (gtL ys)) := (unhide K).2.2.2.2.2.c 0 (by simp)
  have mQG01 : w7.cell? ⟨X8, 1, none⟩ = some (.int .i64 (gtS ys)) := (unhide K).2.2.2.2.2.c 1 (by simp)
  have mQG02 : w7.cell? ⟨X8, 2, none⟩ = some (.slice a6 ((gtD ys).length) c7) := (unhide K).2.2.2.2.2.c 2 (by simp)
  go_wp2_with fail
  clear mQW00 mQW01 mQW02 mQG00 mQG01 mQG02
  obtain ⟨g9, hg9⟩ : ∃ G, w7.heap.size = G := ⟨_, rfl⟩
  refine (toByteS_own _ _ _ _ _ ((unhide Rd).below (unhide K).1) hd1).mono ?_
  rintro x w8 ⟨rfl, oc, b⟩
  rw [hg9] at oc ⊢
  have Bg9 := hide hg9
  clear hg9
  have IC := hide oc.row
  have S11 : Hid (w7.heap.size ≤ w8.heap.size) := hide b.size
  have K : Hid (Below w.heap.size w w8 ∧ WdOwn w8 w1.heap.size a2 ((gtD ys).length) c3 (gtD ys) ∧ Blk w8 X4 [.int .i64 (gtL ys), .int .i64 (gtS ys), .slice a2 ((gtD ys).length) c3] ∧ OwnE 1 byC w8 w3.heap.size 5 (.slice (some ⟨g5, 0, none⟩) dl1 dl1) ys ∧ WdOwn w8 w4.heap.size a6 ((gtD ys).length) c7 (gtD ys) ∧ Blk w8 X8 [.int .i64 (gtL ys), .int .i64 (gtS ys), .slice a6 ((gtD ys).length) c7]) := hide ((unhide KEPT) _ _ (unhide K) b)
  clear oc b
  have mQW00 : w8.cell? ⟨X4, 0, none⟩ = some (.int .i64 (gtL ys)) := (unhide K).2.2.1.c 0 (by simp)
  have mQW01 : w8.cell? ⟨X4, 1, none⟩ = some (.int .i64 (gtS ys)) := (unhide K).2.2.1.c 1 (by simp)
  have mQW02 : w8.cell? ⟨X4, 2, none⟩ = some (.slice a2 ((gtD ys).length) c3) := (unhide K).2.2.1.c 2 (by simp)
  have mQG00 : w8.cell? ⟨X8, 0, none⟩ = some (.int .i64 (gtL ys)) := (unhide K).2.2.2.2.2.c 0 (by simp)
  have mQG01 : w8.cell? ⟨X8, 1, none⟩ = some (.int .i64 (gtS ys)) := (unhide K).2.2.2.2.2.c 1 (by simp)
  have mQG02 : w8.cell? ⟨X8, 2, none⟩ = some (.slice a6 ((gtD ys).length) c7) := (unhide K).2.2.2.2.2.c 2 (by simp)
  go_wp2_with fail
  clear mQW00 mQW01 mQW02 mQG00 mQG01 mQG02
  refine (eqByteS_same _ _ _ _ _ _ _ _ (unhide K).2.2.2.1.row (unhide IC)).mono ?_
  rintro x w9 ⟨rfl, b⟩
  have S12 : Hid (w8.heap.size ≤ w9.heap.size) := hide b.size
  have K : Hid (Below w.heap.size w w9 ∧ WdOwn w9 w1.heap.size a2 ((gtD ys).length) c3 (gtD ys) ∧ Blk w9 X4 [.int .i64 (gtL ys), .int .i64 (gtS ys), .slice a2 ((gtD ys).length) c3] ∧ OwnE 1 byC w9 w3.heap.size 5 (.slice (some ⟨g5, 0, none⟩) dl1 dl1) ys ∧ WdOwn w9 w4.heap.size a6 ((gtD ys).length) c7 (gtD ys) ∧ Blk w9 X8 [.int .i64 (gtL ys), .int .i64 (gtS ys), .slice a6 ((gtD ys).length) c7]) := hide ((unhide KEPT) _ _ (unhide K) b)
  clear b IC
  have mQW00 : w9.cell? ⟨X4, 0, none⟩ = some (.int .i64 (gtL ys)) := (unhide K).2.2.1.c 0 (by simp)
  have mQW01 : w9.cell? ⟨X4, 1, none⟩ = some (.int .i64 (gtS ys)) := (unhide K).2.2.1.c 1 (by simp)
  have mQW02 : w9.cell? ⟨X4, 2, none⟩ = some (.slice a2 ((gtD ys).length) c3) := (unhide K).2.2.1.c 2 (by simp)
  have mQG00 : w9.cell? ⟨X8, 0, none⟩ = some (.int .i64 (gtL ys)) := (unhide K).2.2.2.2.2.c 0 (by simp)
  have mQG01 : w9.cell? ⟨X8, 1, none⟩ = some (.int .i64 (gtS ys)) := (unhide K).2.2.2.2.2.c 1 (by simp)
  have mQG02 : w9.cell? ⟨X8, 2, none⟩ = some (.slice a6 ((gtD ys).length) c7) := (unhide K).2.2.2.2.2.c 2 (by simp)
  go_wp2_with fail
  clear mQW00 mQW01 mQW02 mQG00 mQG01 mQG02
  refine (markByteS_any _ _ _ _ _ 1 _ (unhide K).2.2.2.1 (unhide Ed1) (hd1) (by omega) (by omega)).mono ?_
  rintro x w10 ⟨rfl, om, gr⟩
  have on := Only.of_row (lo := w3.heap.size) (hi := w4.heap.size) gr (unhide LXx0)
  have S13 : Hid (w9.heap.size ≤ w10.heap.size) := hide on.size
  have K : Hid (Below w.heap.size w w10 ∧ WdOwn w10 w1.heap.size a2 ((gtD ys).length) c3 (gtD ys) ∧ Blk w10 X4 [.int .i64 (gtL ys), .int .i64 (gtS ys), .slice a2 ((gtD ys).length) c3] ∧ WdOwn w10 w4.heap.size a6 ((gtD ys).length) c7 (gtD ys) ∧ Blk w10 X8 [.int .i64 (gtL ys), .int .i64 (gtS ys), .slice a6 ((gtD ys).length) c7]) := hide ⟨below_only (unhide K).1 on (by have s0 := unhide S0; have s1 := unhide S1; have s2 := unhide S2; have s3 := unhide S3; have s4 := unhide S4; have s5 := unhide S5; have s6 := unhide S6; have s7 := unhide S7; have s8 := unhide S8; have s9 := unhide S9; have s10 := unhide S10; have s11 := unhide S11; have s12 := unhide S12; have s13 := unhide S13; omega) (Nat.le_refl _), (unhide K).2.1.only on (unhide LW0) (by have s0 := unhide S0; have s1 := unhide S1; have s2 := unhide S2; have s3 := unhide S3; have s4 := unhide S4; have s5 := unhide S5; have s6 := unhide S6; have s7 := unhide S7; have s8 := unhide S8; have s9 := unhide S9; have s10 := unhide S10; have s11 := unhide S11; have s12 := unhide S12; have s13 := unhide S13; omega), (unhide K).2.2.1.only on (by have s0 := unhide S0; have s1 := unhide S1; have s2 := unhide S2; have s3 := unhide S3; have s4 := unhide S4; have s5 := unhide S5; have s6 := unhide S6; have s7 := unhide S7; have s8 := unhide S8; have s9 := unhide S9; have s10 := unhide S10; have s11 := unhide S11; have s12 := unhide S12; have s13 := unhide S13; omega), (unhide K).2.2.2.2.1.only on (unhide LG0) (by have s0 := unhide S0; have s1 := unhide S1; have s2 := unhide S2; have s3 := unhide S3; have s4 := unhide S4; have s5 := unhide S5; have s6 := unhide S6; have s7 := unhide S7; have s8 := unhide S8; have s9 := unhide S9; have s10 := unhide S10; have s11 := unhide S11; have s12 := unhide S12; have s13 := unhide S13; omega), (unhide K).2.2.2.2.2.only on (by have s0 := unhide S0; have s1 := unhide S1; have s2 := unhide S2; have s3 := unhide S3; have s4 := unhide S4; have s5 := unhide S5; have s6 := unhide S6; have s7 := unhide S7; have s8 := unhide S8; have s9 := unhide S9; have s10 := unhide S10; have s11 := unhide S11; have s12 := unhide S12; have s13 := unhide S13; omega)⟩
  clear KEPT om on gr
  have KEPT : Hid (∀ W u3, (Below w.heap.size w W ∧ WdOwn W w1.heap.size a2 ((gtD ys).length) c3 (gtD ys) ∧ Blk W X4 [.int .i64 (gtL ys), .int .i64 (gtS ys), .slice a2 ((gtD ys).length) c3] ∧ WdOwn W w4.heap.size a6 ((gtD ys).length) c7 (gtD ys) ∧ Blk W X8 [.int .i64 (gtL ys), .int .i64 (gtS ys), .slice a6 ((gtD ys).length) c7]) → Below W.heap.size W u3 → (Below w.heap.size w u3 ∧ WdOwn u3 w1.heap.size a2 ((gtD ys).length) c3 (gtD ys) ∧ Blk u3 X4 [.int .i64 (gtL ys), .int .i64 (gtS ys), .slice a2 ((gtD ys).length) c3] ∧ WdOwn u3 w4.heap.size a6 ((gtD ys).length) c7 (gtD ys) ∧ Blk u3 X8 [.int .i64 (gtL ys), .int .i64 (gtS ys), .slice a6 ((gtD ys).length) c7])) := hide (fun W u3 h b => ⟨h.1.trans (b.mono h.1.size), h.2.1.below b, h.2.2.1.below b, h.2.2.2.1.below b, h.2.2.2.2.below b⟩)
  have nk10 : ¬ (1 + (dl1 : Int) < 0) := by omega
  have mQW00 : w10.cell? ⟨X4, 0, none⟩ = some (.int .i64 (gtL ys)) := (unhide K).2.2.1.c 0 (by simp)
  have mQW01 : w10.cell? ⟨X4, 1, none⟩ = some (.int .i64 (gtS ys)) := (unhide K).2.2.1.c 1 (by simp)
  have mQW02 : w10.cell? ⟨X4, 2, none⟩ = some (.slice a2 ((gtD ys).length) c3) := (unhide K).2.2.1.c 2 (by simp)
  have mQG00 : w10.cell? ⟨X8, 0, none⟩ = some (.int .i64 (gtL ys)) := (unhide K).2.2.2.2.c 0 (by simp)
  have mQG01 : w10.cell? ⟨X8, 1, none⟩ = some (.int .i64 (gtS ys)) := (unhide K).2.2.2.2.c 1 (by simp)
  have mQG02 : w10.cell? ⟨X8, 2, none⟩ = some (.slice a6 ((gtD ys).length) c7) := (unhide K).2.2.2.2.c 2 (by simp)
  go_wp2_with fail
  clear mQW00 mQW01 mQW02 mQG00 mQG01 mQG02
  refine (eqWord16_same _ _ _ _ _ _ _ _ _ (unhide K).2.2.2.1.read (unhide K).2.1.read).mono ?_
  rintro x w11 ⟨rfl, b⟩
  have S14 : Hid (w10.heap.size ≤ w11.heap.size) := hide b.size
  have K : Hid (Below w.heap.size w w11 ∧ WdOwn w11 w1.heap.size a2 ((gtD ys).length) c3 (gtD ys) ∧ Blk w11 X4 [.int .i64 (gtL ys), .int .i64 (gtS ys), .slice a2 ((gtD ys).length) c3] ∧ WdOwn w11 w4.heap.size a6 ((gtD ys).length) c7 (gtD ys) ∧ Blk w11 X8 [.int .i64 (gtL ys), .int .i64 (gtS ys), .slice a6 ((gtD ys).length) c7]) := hide ((unhide KEPT) _ _ (unhide K) b)
  clear b
  have mQW00 : w11.cell? ⟨X4, 0, none⟩ = some (.int .i64 (gtL ys)) := (unhide K).2.2.1.c 0 (by simp)
  have mQW01 : w11.cell? ⟨X4, 1, none⟩ = some (.int .i64 (gtS ys)) := (unhide K).2.2.1.c 1 (by simp)
  have mQW02 : w11.cell? ⟨X4, 2, none⟩ = some (.slice a2 ((gtD ys).length) c3) := (unhide K).2.2.1.c 2 (by simp)
  have mQG00 : w11.cell? ⟨X8, 0, none⟩ = some (.int .i64 (gtL ys)) := (unhide K).2.2.2.2.c 0 (by simp)
  have mQG01 : w11.cell? ⟨X8, 1, none⟩ = some (.int .i64 (gtS ys)) := (unhide K).2.2.2.2.c 1 (by simp)
  have mQG02 : w11.cell? ⟨X8, 2, none⟩ = some (.slice a6 ((gtD ys).length) c7) := (unhide K).2.2.2.2.c 2 (by simp)
  go_wp2_with fail
  clear mQW00 mQW01 mQW02 mQG00 mQG01 mQG02
  refine (markWord16_own _ _ _ _ _ _ _ 1 _ (unhide K).2.2.2.1 (rfl) (by have := hfl; omega) (by omega) (by omega) _ _ (unhide LG0) (by have zz := (unhide K).1.size; have s0 := unhide S0; have s1 := unhide S1; have s2 := unhide S2; have s3 := unhide S3; have s4 := unhide S4; have s5 := unhide S5; have s6 := unhide S6; have s7 := unhide S7; have s8 := unhide S8; have s9 := unhide S9; have s10 := unhide S10; have s11 := unhide S11; have s12 := unhide S12; have s13 := unhide S13; have s14 := unhide S14; omega)).mono ?_
  rintro x w12 ⟨rfl, om, on⟩
  have S15 : Hid (w11.heap.size ≤ w12.heap.size) := hide on.size
  have K : Hid (Below w.heap.size w w12 ∧ WdOwn w12 w1.heap.size a2 ((gtD ys).length) c3 (gtD ys) ∧ Blk w12 X4 [.int .i64 (gtL ys), .int .i64 (gtS ys), .slice a2 ((gtD ys).length) c3] ∧ WdOwn w12 w4.heap.size a6 ((gtD ys).length) c7 (markBy (gtD ys) 1 ((gtD ys).length)) ∧ Blk w12 X8 [.int .i64 (gtL ys), .int .i64 (gtS ys), .slice a6 ((gtD ys).length) c7]) := hide ⟨below_only (unhide K).1 on (by have s0 := unhide S0; have s1 := unhide S1; have s2 := unhide S2; have s3 := unhide S3; have s4 := unhide S4; have s5 := unhide S5; have s6 := unhide S6; have s7 := unhide S7; have s8 := unhide S8; have s9 := unhide S9; have s10 := unhide S10; have s11 := unhide S11; have s12 := unhide S12; have s13 := unhide S13; have s14 := unhide S14; have s15 := unhide S15; omega) (Nat.le_refl _), (unhide K).2.1.only on (unhide LW0) (by have s0 := unhide S0; have s1 := unhide S1; have s2 := unhide S2; have s3 := unhide S3; have s4 := unhide S4; have s5 := unhide S5; have s6 := unhide S6; have s7 := unhide S7; have s8 := unhide S8; have s9 := unhide S9; have s10 := unhide S10; have s11 := unhide S11; have s12 := unhide S12; have s13 := unhide S13; have s14 := unhide S14; have s15 := unhide S15; omega), (unhide K).2.2.1.only on (by have s0 := unhide S0; have s1 := unhide S1; have s2 := unhide S2; have s3 := unhide S3; have s4 := unhide S4; have s5 := unhide S5; have s6 := unhide S6; have s7 := unhide S7; have s8 := unhide S8; have s9 := unhide S9; have s10 := unhide S10; have s11 := unhide S11; have s12 := unhide S12; have s13 := unhide S13; have s14 := unhide S14; have s15 := unhide S15; omega), om, (unhide K).2.2.2.2.only on (by have s0 := unhide S0; have s1 := unhide S1; have s2 := unhide S2; have s3 := unhide S3; have s4 := unhide S4; have s5 := unhide S5; have s6 := unhide S6; have s7 := unhide S7; have s8 := unhide S8; have s9 := unhide S9; have s10 := unhide S10; have s11 := unhide S11; have s12 := unhide S12; have s13 := unhide S13; have s14 := unhide S14; have s15 := unhide S15; omega)⟩
  clear KEPT om on
  have KEPT : Hid (∀ W u3, (Below w.heap.size w W ∧ WdOwn W w1.heap.size a2 ((gtD ys).length) c3 (gtD ys) ∧ Blk W X4 [.int .i64 (gtL ys), .int .i64 (gtS ys), .slice a2 ((gtD ys).length) c3] ∧ WdOwn W w4.heap.size a6 ((gtD ys).length) c7 (markBy (gtD ys) 1 ((gtD ys).length)) ∧ Blk W X8 [.int .i64 (gtL ys), .int .i64 (gtS ys), .slice a6 ((gtD ys).length) c7]) → Below W.heap.size W u3 → (Below w.heap.size w u3 ∧ WdOwn u3 w1.heap.size a2 ((gtD ys).length) c3 (gtD ys) ∧ Blk u3 X4 [.int .i64 (gtL ys), .int .i64 (gtS ys), .slice a2 ((gtD ys).length) c3] ∧ WdOwn u3 w4.heap.size a6 ((gtD ys).length) c7 (markBy (gtD ys) 1 ((gtD ys).length)) ∧ Blk u3 X8 [.int .i64 (gtL ys), .int .i64 (gtS ys), .slice a6 ((gtD ys).length) c7])) := hide (fun W u3 h b => ⟨h.1.trans (b.mono h.1.size), h.2.1.below b, h.2.2.1.below b, h.2.2.2.1.below b, h.2.2.2.2.below b⟩)
  have mQW00 : w12.cell? ⟨X4, 0, none⟩ = some (.int .i64 (gtL ys)) := (unhide K).2.2.1.c 0 (by simp)
  have mQW01 : w12.cell? ⟨X4, 1, none⟩ = some (.int .i64 (gtS ys)) := (unhide K).2.2.1.c 1 (by simp)
  have mQW02 : w12.cell? ⟨X4, 2, none⟩ = some (.slice a2 ((gtD ys).length) c3) := (unhide K).2.2.1.c 2 (by simp)
  have mQG00 : w12.cell? ⟨X8, 0, none⟩ = some (.int .i64 (gtL ys)) := (unhide K).2.2.2.2.c 0 (by simp)
  have mQG01 : w12.cell? ⟨X8, 1, none⟩ = some (.int .i64 (gtS ys)) := (unhide K).2.2.2.2.c 1 (by simp)
  have mQG02 : w12.cell? ⟨X8, 2, none⟩ = some (.slice a6 ((gtD ys).length) c7) := (unhide K).2.2.2.2.c 2 (by simp)
  go_wp2_with fail
  clear mQW00 mQW01 mQW02 mQG00 mQG01 mQG02
  refine (heldWord16_any _ _ _ _ _ _ _ 1 _ (unhide K).2.2.2.1 (rfl) (by have := hfl; omega) (by omega) (by omega)).mono ?_
  rintro x w13 ⟨rfl, b⟩
  have S16 : Hid (w12.heap.size ≤ w13.heap.size) := hide b.size
  have K : Hid (Below w.heap.size w w13 ∧ WdOwn w13 w1.heap.size a2 ((gtD ys).length) c3 (gtD ys) ∧ Blk w13 X4 [.int .i64 (gtL ys), .int .i64 (gtS ys), .slice a2 ((gtD ys).length) c3] ∧ WdOwn w13 w4.heap.size a6 ((gtD ys).length) c7 (markBy (gtD ys) 1 ((gtD ys).length)) ∧ Blk w13 X8 [.int .i64 (gtL ys), .int .i64 (gtS ys), .slice a6 ((gtD ys).length) c7]) := hide ((unhide KEPT) _ _ (unhide K) b)
  clear b
  have nq13 : ¬ (1 + ((gtD ys).length : Int) < 0) := by omega
  have nn13 : (1 + ((gtD ys).length : Int) != 1 + ((gtD ys).length : Int)) = false := by simp
  have mQW00 : w13.cell? ⟨X4, 0, none⟩ = some (.int .i64 (gtL ys)) := (unhide K).2.2.1.c 0 (by simp)
  have mQW01 : w13.cell? ⟨X4, 1, none⟩ = some (.int .i64 (gtS ys)) := (unhide K).2.2.1.c 1 (by simp)
  have mQW02 : w13.cell? ⟨X4, 2, none⟩ = some (.slice a2 ((gtD ys).length) c3) := (unhide K).2.2.1.c 2 (by simp)
  have mQG00 : w13.cell? ⟨X8, 0, none⟩ = some (.int .i64 (gtL ys)) := (unhide K).2.2.2.2.c 0 (by simp)
  have mQG01 : w13.cell? ⟨X8, 1, none⟩ = some (.int .i64 (gtS ys)) := (unhide K).2.2.2.2.c 1 (by simp)
  have mQG02 : w13.cell? ⟨X8, 2, none⟩ = some (.slice a6 ((gtD ys).length) c7) := (unhide K).2.2.2.2.c 2 (by simp)
  go_wp2_with fail
  clear mQW00 mQW01 mQW02 mQG00 mQG01 mQG02
  obtain ⟨g10, hg10⟩ : ∃ G, w13.heap.size = G := ⟨_, rfl⟩
  refine (toByteS_own _ _ _ _ _ ((unhide Rd).below (unhide K).1) hd1).mono ?_
  rintro x w14 ⟨rfl, oc, b⟩
  rw [hg10] at oc ⊢
  have Bg10 := hide hg10
  clear hg10
  have LT14 : Hid (∀ g, (Value.slice (some ⟨g10, 0, none⟩) dl1 dl1).ownBlock = some g → w13.heap.size ≤ g ∧ g < w14.heap.size) := hide (by have e := unhide Bg10; have l := oc.lies; rw [← e] at l ⊢; exact l)
  have S17 : Hid (w13.heap.size ≤ w14.heap.size) := hide b.size
  have K : Hid (Below w.heap.size w w14 ∧ WdOwn w14 w1.heap.size a2 ((gtD ys).length) c3 (gtD ys) ∧ Blk w14 X4 [.int .i64 (gtL ys), .int .i64 (gtS ys), .slice a2 ((gtD ys).length) c3] ∧ WdOwn w14 w4.heap.size a6 ((gtD ys).length) c7 (markBy (gtD ys) 1 ((gtD ys).length)) ∧ Blk w14 X8 [.int .i64 (gtL ys), .int .i64 (gtS ys), .slice a6 ((gtD ys).length) c7]) := hide ((unhide KEPT) _ _ (unhide K) b)
  have K : Hid (Below w.heap.size w w14 ∧ WdOwn w14 w1.heap.size a2 ((gtD ys).length) c3 (gtD ys) ∧ Blk w14 X4 [.int .i64 (gtL ys), .int .i64 (gtS ys), .slice a2 ((gtD ys).length) c3] ∧ WdOwn w14 w4.heap.size a6 ((gtD ys).length) c7 (markBy (gtD ys) 1 ((gtD ys).length)) ∧ Blk w14 X8 [.int .i64 (gtL ys), .int .i64 (gtS ys), .slice a6 ((gtD ys).length) c7] ∧ OwnE 1 byC w14 w13.heap.size 5 (.slice (some ⟨g10, 0, none⟩) dl1 dl1) ys) := hide ⟨(unhide K).1, (unhide K).2.1, (unhide K).2.2.1, (unhide K).2.2.2.1, (unhide K).2.2.2.2, (by have e := unhide Bg10; rw [e]; exact oc)⟩
  clear KEPT oc b
  have KEPT : Hid (∀ W u3, (Below w.heap.size w W ∧ WdOwn W w1.heap.size a2 ((gtD ys).length) c3 (gtD ys) ∧ Blk W X4 [.int .i64 (gtL ys), .int .i64 (gtS ys), .slice a2 ((gtD ys).length) c3] ∧ WdOwn W w4.heap.size a6 ((gtD ys).length) c7 (markBy (gtD ys) 1 ((gtD ys).length)) ∧ Blk W X8 [.int .i64 (gtL ys), .int .i64 (gtS ys), .slice a6 ((gtD ys).length) c7] ∧ OwnE 1 byC W w13.heap.size 5 (.slice (some ⟨g10, 0, none⟩) dl1 dl1) ys) → Below W.heap.size W u3 → (Below w.heap.size w u3 ∧ WdOwn u3 w1.heap.size a2 ((gtD ys).length) c3 (gtD ys) ∧ Blk u3 X4 [.int .i64 (gtL ys), .int .i64 (gtS ys), .slice a2 ((gtD ys).length) c3] ∧ WdOwn u3 w4.heap.size a6 ((gtD ys).length) c7 (markBy (gtD ys) 1 ((gtD ys).length)) ∧ Blk u3 X8 [.int .i64 (gtL ys), .int .i64 (gtS ys), .slice a6 ((gtD ys).length) c7] ∧ OwnE 1 byC u3 w13.heap.size 5 (.slice (some ⟨g10, 0, none⟩) dl1 dl1) ys)) := hide (fun W u3 h b => ⟨h.1.trans (b.mono h.1.size), h.2.1.below b, h.2.2.1.below b, h.2.2.2.1.below b, h.2.2.2.2.1.below b, h.2.2.2.2.2.below b⟩)
  have mQW00 : w14.cell? ⟨X4, 0, none⟩ = some (.int .i64 (gtL ys)) := (unhide K).2.2.1.c 0 (by simp)
  have mQW01 : w14.cell? ⟨X4, 1, none⟩ = some (.int .i64 (gtS ys)) := (unhide K).2.2.1.c 1 (by simp)
  have mQW02 : w14.cell? ⟨X4, 2, none⟩ = some (.slice a2 ((gtD ys).length) c3) := (unhide K).2.2.1.c 2 (by simp)
  have mQG00 : w14.cell? ⟨X8, 0, none⟩ = some (.int .i64 (gtL ys)) := (unhide K).2.2.2.2.1.c 0 (by simp)
  have mQG01 : w14.cell? ⟨X8, 1, none⟩ = some (.int .i64 (gtS ys)) := (unhide K).2.2.2.2.1.c 1 (by simp)
  have mQG02 : w14.cell? ⟨X8, 2, none⟩ = some (.slice a6 ((gtD ys).length) c7) := (unhide K).2.2.2.2.1.c 2 (by simp)
  go_wp2_with fail
  clear mQW00 mQW01 mQW02 mQG00 mQG01 mQG02
  refine (implGet16_any _ _ _ _ _ (unhide K).2.2.2.2.2.row (unhide HBI) (Nat.le_refl _)).mono ?_
  rintro x w15 ⟨a11, c12, rfl, oH_0, b⟩
  have LH0 : Hid (WdLies w14.heap.size w15.heap.size a11 ((gtD ys).length) c12) := hide oH_0.lies
  have S18 : Hid (w14.heap.size ≤ w15.heap.size) := hide b.size
  have K : Hid (Below w.heap.size w w15 ∧ WdOwn w15 w1.heap.size a2 ((gtD ys).length) c3 (gtD ys) ∧ Blk w15 X4 [.int .i64 (gtL ys), .int .i64 (gtS ys), .slice a2 ((gtD ys).length) c3] ∧ WdOwn w15 w4.heap.size a6 ((gtD ys).length) c7 (markBy (gtD ys) 1 ((gtD ys).length)) ∧ Blk w15 X8 [.int .i64 (gtL ys), .int .i64 (gtS ys), .slice a6 ((gtD ys).length) c7] ∧ OwnE 1 byC w15 w13.heap.size 5 (.slice (some ⟨g10, 0, none⟩) dl1 dl1) ys) := hide ((unhide KEPT) _ _ (unhide K) b)
  have K : Hid (Below w.heap.size w w15 ∧ WdOwn w15 w1.heap.size a2 ((gtD ys).length) c3 (gtD ys) ∧ Blk w15 X4 [.int .i64 (gtL ys), .int .i64 (gtS ys), .slice a2 ((gtD ys).length) c3] ∧ WdOwn w15 w4.heap.size a6 ((gtD ys).length) c7 (markBy (gtD ys) 1 ((gtD ys).length)) ∧ Blk w15 X8 [.int .i64 (gtL ys), .int .i64 (gtS ys), .slice a6 ((gtD ys).length) c7] ∧ OwnE 1 byC w15 w13.heap.size 5 (.slice (some ⟨g10, 0, none⟩) dl1 dl1) ys ∧ WdOwn w15 w14.heap.size a11 ((gtD ys).length) c12 (gtD ys)) := hide ⟨(unhide K).1, (unhide K).2.1, (unhide K).2.2.1, (unhide K).2.2.2.1, (unhide K).2.2.2.2.1, (unhide K).2.2.2.2.2, oH_0⟩
  clear KEPT
  have KEPT : Hid (∀ W u3, (Below w.heap.size w W ∧ WdOwn W w1.heap.size a2 ((gtD ys).length) c3 (gtD ys) ∧ Blk W X4 [.int .i64 (gtL ys), .int .i64 (gtS ys), .slice a2 ((gtD ys).length) c3] ∧ WdOwn W w4.heap.size a6 ((gtD ys).length) c7 (markBy (gtD ys) 1 ((gtD ys).length)) ∧ Blk W X8 [.int .i64 (gtL ys), .int .i64 (gtS ys), .slice a6 ((gtD ys).length) c7] ∧ OwnE 1 byC W w13.heap.size 5 (.slice (some ⟨g10, 0, none⟩) dl1 dl1) ys ∧ WdOwn W w14.heap.size a11 ((gtD ys).length) c12 (gtD ys)) → Below W.heap.size W u3 → (Below w.heap.size w u3 ∧ WdOwn u3 w1.heap.size a2 ((gtD ys).length) c3 (gtD ys) ∧ Blk u3 X4 [.int .i64 (gtL ys), .int .i64 (gtS ys), .slice a2 ((gtD ys).length) c3] ∧ WdOwn u3 w4.heap.size a6 ((gtD ys).length) c7 (markBy (gtD ys) 1 ((gtD ys).length)) ∧ Blk u3 X8 [.int .i64 (gtL ys), .int .i64 (gtS ys), .slice a6 ((gtD ys).length) c7] ∧ OwnE 1 byC u3 w13.heap.size 5 (.slice (some ⟨g10, 0, none⟩) dl1 dl1) ys ∧ WdOwn u3 w14.heap.size a11 ((gtD ys).length) c12 (gtD ys))) := hide (fun W u3 h b => ⟨h.1.trans (b.mono h.1.size), h.2.1.below b, h.2.2.1.below b, h.2.2.2.1.below b, h.2.2.2.2.1.below b, h.2.2.2.2.2.1.below b, h.2.2.2.2.2.2.below b⟩)
  clear oH_0
  clear b
  have K : Hid (Below w.heap.size w w15 ∧ WdOwn w15 w1.heap.size a2 ((gtD ys).length) c3 (gtD ys) ∧ Blk w15 X4 [.int .i64 (gtL ys), .int .i64 (gtS ys), .slice a2 ((gtD ys).length) c3] ∧ WdOwn w15 w4.heap.size a6 ((gtD ys).length) c7 (markBy (gtD ys) 1 ((gtD ys).length)) ∧ Blk w15 X8 [.int .i64 (gtL ys), .int .i64 (gtS ys), .slice a6 ((gtD ys).length) c7] ∧ WdOwn w15 w14.heap.size a11 ((gtD ys).length) c12 (gtD ys)) := hide ⟨(unhide K).1, (unhide K).2.1, (unhide K).2.2.1, (unhide K).2.2.2.1, (unhide K).2.2.2.2.1, (unhide K).2.2.2.2.2.2⟩
  clear KEPT
  have KEPT : Hid (∀ W u3, (Below w.heap.size w W ∧ WdOwn W w1.heap.size a2 ((gtD ys).length) c3 (gtD ys) ∧ Blk W X4 [.int .i64 (gtL ys), .int .i64 (gtS ys), .slice a2 ((gtD ys).length) c3] ∧ WdOwn W w4.heap.size a6 ((gtD ys).length) c7 (markBy (gtD ys) 1 ((gtD ys).length)) ∧ Blk W X8 [.int .i64 (gtL ys), .int .i64 (gtS ys), .slice a6 ((gtD ys).length) c7] ∧ WdOwn W w14.heap.size a11 ((gtD ys).length) c12 (gtD ys)) → Below W.heap.size W u3 → (Below w.heap.size w u3 ∧ WdOwn u3 w1.heap.size a2 ((gtD ys).length) c3 (gtD ys) ∧ Blk u3 X4 [.int .i64 (gtL ys), .int .i64 (gtS ys), .slice a2 ((gtD ys).length) c3] ∧ WdOwn u3 w4.heap.size a6 ((gtD ys).length) c7 (markBy (gtD ys) 1 ((gtD ys).length)) ∧ Blk u3 X8 [.int .i64 (gtL ys), .int .i64 (gtS ys), .slice a6 ((gtD ys).length) c7] ∧ WdOwn u3 w14.heap.size a11 ((gtD ys).length) c12 (gtD ys))) := hide (fun W u3 h b => ⟨h.1.trans (b.mono h.1.size), h.2.1.below b, h.2.2.1.below b, h.2.2.2.1.below b, h.2.2.2.2.1.below b, h.2.2.2.2.2.below b⟩)
  obtain ⟨w16, hw16⟩ : ∃ V, V = w15.alloc (Obj.cells #[.int .i64 (gtL ys), .int .i64 (gtS ys), .slice a11 ((gtD ys).length) c12] 27) := ⟨_, rfl⟩
  have b : Below w15.heap.size w15 w16 := by rw [hw16]; exact bel1 _
  have kx : Blk w16 w15.heap.size [.int .i64 (gtL ys), .int .i64 (gtS ys), .slice a11 ((gtD ys).length) c12] := by rw [hw16]; exact Blk.new _ _
  have S19 : Hid (w15.heap.size + 1 ≤ w16.heap.size) := hide (by rw [hw16]; simp)
  have S20 : Hid (w15.heap.size ≤ w16.heap.size) := hide b.size
  have K : Hid (Below w.heap.size w w16 ∧ WdOwn w16 w1.heap.size a2 ((gtD ys).length) c3 (gtD ys) ∧ Blk w16 X4 [.int .i64 (gtL ys), .int .i64 (gtS ys), .slice a2 ((gtD ys).length) c3] ∧ WdOwn w16 w4.heap.size a6 ((gtD ys).length) c7 (markBy (gtD ys) 1 ((gtD ys).length)) ∧ Blk w16 X8 [.int .i64 (gtL ys), .int .i64 (gtS ys), .slice a6 ((gtD ys).length) c7] ∧ WdOwn w16 w14.heap.size a11 ((gtD ys).length) c12 (gtD ys)) := hide ((unhide KEPT) _ _ (unhide K) b)
  have mQW00 : w16.cell? ⟨X4, 0, none⟩ = some (.int .i64 (gtL ys)) := (unhide K).2.2.1.c 0 (by simp)
  have mQW01 : w16.cell? ⟨X4, 1, none⟩ = some (.int .i64 (gtS ys)) := (unhide K).2.2.1.c 1 (by simp)
  have mQW02 : w16.cell? ⟨X4, 2, none⟩ = some (.slice a2 ((gtD ys).length) c3) := (unhide K).2.2.1.c 2 (by simp)
  have mQG00 : w16.cell? ⟨X8, 0, none⟩ = some (.int .i64 (gtL ys)) := (unhide K).2.2.2.2.1.c 0 (by simp)
  have mQG01 : w16.cell? ⟨X8, 1, none⟩ = some (.int .i64 (gtS ys)) := (unhide K).2.2.2.2.1.c 1 (by simp)
  have mQG02 : w16.cell? ⟨X8, 2, none⟩ = some (.slice a6 ((gtD ys).length) c7) := (unhide K).2.2.2.2.1.c 2 (by simp)
  rw [hw16] at mQW00 mQW01 mQW02 mQG00 mQG01 mQG02
  obtain ⟨X13, hX13⟩ : ∃ X, w15.heap.size = X := ⟨_, rfl⟩
  rw [hX13] at kx
  have S21 : Hid (w15.heap.size = X13) := hide hX13
  have K : Hid (Below w.heap.size w w16 ∧ WdOwn w16 w1.heap.size a2 ((gtD ys).length) c3 (gtD ys) ∧ Blk w16 X4 [.int .i64 (gtL ys), .int .i64 (gtS ys), .slice a2 ((gtD ys).length) c3] ∧ WdOwn w16 w4.heap.size a6 ((gtD ys).length) c7 (markBy (gtD ys) 1 ((gtD ys).length)) ∧ Blk w16 X8 [.int .i64 (gtL ys), .int .i64 (gtS ys), .slice a6 ((gtD ys).length) c7] ∧ WdOwn w16 w14.heap.size a11 ((gtD ys).length) c12 (gtD ys) ∧ Blk w16 X13 [.int .i64 (gtL ys), .int .i64 (gtS ys), .slice a11 ((gtD ys).length) c12]) := hide ⟨(unhide K).1, (unhide K).2.1, (unhide K).2.2.1, (unhide K).2.2.2.1, (unhide K).2.2.2.2.1, (unhide K).2.2.2.2.2, kx⟩
  clear KEPT b kx
  have KEPT : Hid (∀ W u3, (Below w.heap.size w W ∧ WdOwn W w1.heap.size a2 ((gtD ys).length) c3 (gtD ys) ∧ Blk W X4 [.int .i64 (gtL ys), .int .i64 (gtS ys), .slice a2 ((gtD ys).length) c3] ∧ WdOwn W w4.heap.size a6 ((gtD ys).length) c7 (markBy (gtD ys) 1 ((gtD ys).length)) ∧ Blk W X8 [.int .i64 (gtL ys), .int .i64 (gtS ys), .slice a6 ((gtD ys).length) c7] ∧ WdOwn W w14.heap.size a11 ((gtD ys).length) c12 (gtD ys) ∧ Blk W X13 [.int .i64 (gtL ys), .int .i64 (gtS ys), .slice a11 ((gtD ys).length) c12]) → Below W.heap.size W u3 → (Below w.heap.size w u3 ∧ WdOwn u3 w1.heap.size a2 ((gtD ys).length) c3 (gtD ys) ∧ Blk u3 X4 [.int .i64 (gtL ys), .int .i64 (gtS ys), .slice a2 ((gtD ys).length) c3] ∧ WdOwn u3 w4.heap.size a6 ((gtD ys).length) c7 (markBy (gtD ys) 1 ((gtD ys).length)) ∧ Blk u3 X8 [.int .i64 (gtL ys), .int .i64 (gtS ys), .slice a6 ((gtD ys).length) c7] ∧ WdOwn u3 w14.heap.size a11 ((gtD ys).length) c12 (gtD ys) ∧ Blk u3 X13 [.int .i64 (gtL ys), .int .i64 (gtS ys), .slice a11 ((gtD ys).length) c12])) := hide (fun W u3 h b => ⟨h.1.trans (b.mono h.1.size), h.2.1.below b, h.2.2.1.below b, h.2.2.2.1.below b, h.2.2.2.2.1.below b, h.2.2.2.2.2.1.below b, h.2.2.2.2.2.2.below b⟩)
  have Hw16 := hide hw16
  have HX13 := hide hX13
  clear hw16 hX13
  go_wp2_with fail
  try rw [← unhide Hw16]
  try rw [unhide HX13]
  clear Hw16 HX13 mQW00 mQW01 mQW02 mQG00 mQG01 mQG02
  refine (eqWord16_same _ _ _ _ _ _ _ _ _ (unhide K).2.2.2.2.2.1.read (unhide K).2.1.read).mono ?_
  rintro x w17 ⟨rfl, b⟩
  have S22 : Hid (w16.heap.size ≤ w17.heap.size) := hide b.size
  have K : Hid (Below w.heap.size w w17 ∧ WdOwn w17 w1.heap.size a2 ((gtD ys).length) c3 (gtD ys) ∧ Blk w17 X4 [.int .i64 (gtL ys), .int .i64 (gtS ys), .slice a2 ((gtD ys).length) c3] ∧ WdOwn w17 w4.heap.size a6 ((gtD ys).length) c7 (markBy (gtD ys) 1 ((gtD ys).length)) ∧ Blk w17 X8 [.int .i64 (gtL ys), .int .i64 (gtS ys), .slice a6 ((gtD ys).length) c7] ∧ WdOwn w17 w14.heap.size a11 ((gtD ys).length) c12 (gtD ys) ∧ Blk w17 X13 [.int .i64 (gtL ys), .int .i64 (gtS ys), .slice a11 ((gtD ys).length) c12]) := hide ((unhide KEPT) _ _ (unhide K) b)
  clear b
  have mQW00 : w17.cell? ⟨X4, 0, none⟩ = some (.int .i64 (gtL ys)) := (unhide K).2.2.1.c 0 (by simp)
  have mQW01 : w17.cell? ⟨X4, 1, none⟩ = some (.int .i64 (gtS ys)) := (unhide K).2.2.1.c 1 (by simp)
  have mQW02 : w17.cell? ⟨X4, 2, none⟩ = some (.slice a2 ((gtD ys).length) c3) := (unhide K).2.2.1.c 2 (by simp)
  have mQG00 : w17.cell? ⟨X8, 0, none⟩ = some (.int .i64 (gtL ys)) := (unhide K).2.2.2.2.1.c 0 (by simp)
  have mQG01 : w17.cell? ⟨X8, 1, none⟩ = some (.int .i64 (gtS ys)) := (unhide K).2.2.2.2.1.c 1 (by simp)
  have mQG02 : w17.cell? ⟨X8, 2, none⟩ = some (.slice a6 ((gtD ys).length) c7) := (unhide K).2.2.2.2.1.c 2 (by simp)
  have mQH00 : w17.cell? ⟨X13, 0, none⟩ = some (.int .i64 (gtL ys)) := (unhide K).2.2.2.2.2.2.c 0 (by simp)
  have mQH01 : w17.cell? ⟨X13, 1, none⟩ = some (.int .i64 (gtS ys)) := (unhide K).2.2.2.2.2.2.c 1 (by simp)
  have mQH02 : w17.cell? ⟨X13, 2, none⟩ = some (.slice a11 ((gtD ys).length) c12) := (unhide K).2.2.2.2.2.2.c 2 (by simp)
  go_wp2_with fail
  clear mQW00 mQW01 mQW02 mQG00 mQG01 mQG02 mQH00 mQH01 mQH02
  refine (heldWord16_any _ _ _ _ _ _ _ 1 _ (unhide K).2.2.2.1 (rfl) (by have := hfl; omega) (by omega) (by omega)).mono ?_
  rintro x w18 ⟨rfl, b⟩
  have S23 : Hid (w17.heap.size ≤ w18.heap.size) := hide b.size
  have K : Hid (Below w.heap.size w w18 ∧ WdOwn w18 w1.heap.size a2 ((gtD ys).length) c3 (gtD ys) ∧ Blk w18 X4 [.int .i64 (gtL ys), .int .i64 (gtS ys), .slice a2 ((gtD ys).length) c3] ∧ WdOwn w18 w4.heap.size a6 ((gtD ys).length) c7 (markBy (gtD ys) 1 ((gtD ys).length)) ∧ Blk w18 X8 [.int .i64 (gtL ys), .int .i64 (gtS ys), .slice a6 ((gtD ys).length) c7] ∧ WdOwn w18 w14.heap.size a11 ((gtD ys).length) c12 (gtD ys) ∧ Blk w18 X13 [.int .i64 (gtL ys), .int .i64 (gtS ys), .slice a11 ((gtD ys).length) c12]) := hide ((unhide KEPT) _ _ (unhide K) b)
  clear b
  have nq18 : ¬ (1 + ((gtD ys).length : Int) < 0) := by omega
  have nn18 : (1 + ((gtD ys).length : Int) != 1 + ((gtD ys).length : Int)) = false := by simp
  have mQW00 : w18.cell? ⟨X4, 0, none⟩ = some (.int .i64 (gtL ys)) := (unhide K).2.2.1.c 0 (by simp)
  have mQW01 : w18.cell? ⟨X4, 1, none⟩ = some (.int .i64 (gtS ys)) := (unhide K).2.2.1.c 1 (by simp)
  have mQW02 : w18.cell? ⟨X4, 2, none⟩ = some (.slice a2 ((gtD ys).length) c3) := (unhide K).2.2.1.c 2 (by simp)
  have mQG00 : w18.cell? ⟨X8, 0, none⟩ = some (.int .i64 (gtL ys)) := (unhide K).2.2.2.2.1.c 0 (by simp)
  have mQG01 : w18.cell? ⟨X8, 1, none⟩ = some (.int .i64 (gtS ys)) := (unhide K).2.2.2.2.1.c 1 (by simp)
  have mQG02 : w18.cell? ⟨X8, 2, none⟩ = some (.slice a6 ((gtD ys).length) c7) := (unhide K).2.2.2.2.1.c 2 (by simp)
  have mQH00 : w18.cell? ⟨X13, 0, none⟩ = some (.int .i64 (gtL ys)) := (unhide K).2.2.2.2.2.2.c 0 (by simp)
  have mQH01 : w18.cell? ⟨X13, 1, none⟩ = some (.int .i64 (gtS ys)) := (unhide K).2.2.2.2.2.2.c 1 (by simp)
  have mQH02 : w18.cell? ⟨X13, 2, none⟩ = some (.slice a11 ((gtD ys).length) c12) := (unhide K).2.2.2.2.2.2.c 2 (by simp)
  go_wp2_with fail
  clear mQW00 mQW01 mQW02 mQG00 mQG01 mQG02 mQH00 mQH01 mQH02
  go_ret
  exact ⟨rfl, (unhide K).1⟩
end Go.Proofs.Ytnhcmokkankcmay
