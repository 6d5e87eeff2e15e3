/-
  The law FnExactDrop18 returns true at every argument and writes nothing that was there: the walk. No condition.
-/
import Derived.Test.YtlpomplldgmkmbaDl2
import Derived.Test.YtlpomplldgmkmbaMk1
import Derived.Test.YtlpomplldgmkmbaOnly
import Derived.Deep.RegionHeld3
namespace Go.Proofs.Ytlpomplldgmkmba
open Go.RowKit
set_option maxRecDepth 20000 in
set_option maxHeartbeats 8000000 in
theorem lawDrop18 (sn : Int) (da1 : Option Addr) (dl1 dc1 : Nat) (zs : List Lc) (nu : Int) (w : World) (hrd : AbIn w da1 dl1 zs)  :
    Calls Try.prog 7 #[.agg #[.int .i64 sn, .slice da1 dl1 dc1], .int .i64 nu] w fun x w' => x = .returned (.bool true) ∧ Below w.heap.size w w' := by
  have Rd := hide hrd
  have smd1 := hrd.r1.small
  have Ed1 := hide hrd.r1.len_eq
  clear hrd
  have hq : (drB sn zs nu != drB sn zs nu) = false := by simp
  go_enter Try.func7, Try.ntmps7
  go_wp2_with fail
  obtain ⟨w1, hw1⟩ : ∃ W, W = (w.alloc (Obj.cells #[.int .i64 sn, .slice da1 dl1 dc1] 52)) := ⟨_, rfl⟩
  rw [← hw1]
  have K : Hid (Below w.heap.size w w1 ∧ Blk w1 w.heap.size [.int .i64 sn, .slice da1 dl1 dc1]) := hide ⟨(by rw [hw1]; exact bel1 _), (by rw [hw1]; exact Blk.new _ _)⟩
  have S0 : Hid (w.heap.size + 1 ≤ w1.heap.size) := hide (by rw [hw1]; simp; try omega)
  clear hw1
  have KEPT : Hid (∀ W u3, (Below w.heap.size w W ∧ Blk W w.heap.size [.int .i64 sn, .slice da1 dl1 dc1]) → Below W.heap.size W u3 → (Below w.heap.size w u3 ∧ Blk u3 w.heap.size [.int .i64 sn, .slice da1 dl1 dc1])) := hide (fun W u3 h b => ⟨h.1.trans (b.mono h.1.size), h.2.below b⟩)
  refine (szAboard_any _ _ _ _ _ 1048576 _ ((unhide Rd).below (unhide K).1) (by omega) (by omega)).mono ?_
  rintro x w2 ⟨⟨r1, rfl, hl⟩, b⟩
  have S1 : Hid (w1.heap.size ≤ w2.heap.size) := hide b.size
  have K : Hid (Below w.heap.size w w2 ∧ Blk w2 w.heap.size [.int .i64 sn, .slice da1 dl1 dc1]) := hide ((unhide KEPT) _ _ (unhide K) b)
  clear b
  rcases hl with hl | ⟨hl, hle, hd1⟩
  · go_wp2_with fail
    go_ret
    exact ⟨rfl, (unhide K).1⟩
  have nr1 : ¬ r1 < 0 := by omega
  have mPd0 : w2.cell? ⟨w.heap.size, 0, none⟩ = some (.int .i64 sn) := (unhide K).2.c 0 (by simp)
  have mPd1 : w2.cell? ⟨w.heap.size, 1, none⟩ = some (.slice da1 dl1 dc1) := (unhide K).2.c 1 (by simp)
  go_wp2_with fail
  clear mPd0 mPd1
  refine (toAboard_own _ _ _ _ _ _ ((unhide Rd).below (unhide K).1) hd1).mono ?_
  rintro x w3 ⟨⟨g2, rfl, oc⟩, b⟩
  have S2 : Hid (w2.heap.size ≤ w3.heap.size) := hide b.size
  have K : Hid (Below w.heap.size w w3 ∧ Blk w3 w.heap.size [.int .i64 sn, .slice da1 dl1 dc1]) := hide ((unhide KEPT) _ _ (unhide K) b)
  have K : Hid (Below w.heap.size w w3 ∧ Blk w3 w.heap.size [.int .i64 sn, .slice da1 dl1 dc1] ∧ AbIs w3 w2.heap.size w3.heap.size (some ⟨g2, 0, none⟩) dl1 dl1 zs) := hide ⟨(unhide K).1, (unhide K).2, oc.is⟩
  clear KEPT oc b
  have KEPT : Hid (∀ W u3, (Below w.heap.size w W ∧ Blk W w.heap.size [.int .i64 sn, .slice da1 dl1 dc1] ∧ AbIs W w2.heap.size w3.heap.size (some ⟨g2, 0, none⟩) dl1 dl1 zs) → Below W.heap.size W u3 → (Below w.heap.size w u3 ∧ Blk u3 w.heap.size [.int .i64 sn, .slice da1 dl1 dc1] ∧ AbIs u3 w2.heap.size w3.heap.size (some ⟨g2, 0, none⟩) dl1 dl1 zs)) := hide (fun W u3 h b => ⟨h.1.trans (b.mono h.1.size), h.2.1.below b, h.2.2.below b⟩)
  have mPd0 : w3.cell? ⟨w.heap.size, 0, none⟩ = some (.int .i64 sn) := (unhide K).2.1.c 0 (by simp)
  have mPd1 : w3.cell? ⟨w.heap.size, 1, none⟩ = some (.slice da1 dl1 dc1) := (unhide K).2.1.c 1 (by simp)
  go_wp2_with fail
  clear mPd0 mPd1
  refine (specDrop18_any _ _ _ _ _ _ _ (unhide K).2.2.read hd1).mono ?_
  rintro x w4 ⟨a3, c4, rfl, oW_0, b⟩
  have S3 : Hid (w3.heap.size ≤ w4.heap.size) := hide b.size
  have K : Hid (Below w.heap.size w w4 ∧ Blk w4 w.heap.size [.int .i64 sn, .slice da1 dl1 dc1] ∧ AbIs w4 w2.heap.size w3.heap.size (some ⟨g2, 0, none⟩) dl1 dl1 zs) := hide ((unhide KEPT) _ _ (unhide K) b)
  have K : Hid (Below w.heap.size w w4 ∧ Blk w4 w.heap.size [.int .i64 sn, .slice da1 dl1 dc1] ∧ AbIs w4 w2.heap.size w3.heap.size (some ⟨g2, 0, none⟩) dl1 dl1 zs ∧ AbIs w4 w3.heap.size w4.heap.size a3 ((drL sn zs nu).length) c4 (drL sn zs nu)) := hide ⟨(unhide K).1, (unhide K).2.1, (unhide K).2.2, oW_0.is⟩
  clear KEPT
  have KEPT : Hid (∀ W u3, (Below w.heap.size w W ∧ Blk W w.heap.size [.int .i64 sn, .slice da1 dl1 dc1] ∧ AbIs W w2.heap.size w3.heap.size (some ⟨g2, 0, none⟩) dl1 dl1 zs ∧ AbIs W w3.heap.size w4.heap.size a3 ((drL sn zs nu).length) c4 (drL sn zs nu)) → Below W.heap.size W u3 → (Below w.heap.size w u3 ∧ Blk u3 w.heap.size [.int .i64 sn, .slice da1 dl1 dc1] ∧ AbIs u3 w2.heap.size w3.heap.size (some ⟨g2, 0, none⟩) dl1 dl1 zs ∧ AbIs u3 w3.heap.size w4.heap.size a3 ((drL sn zs nu).length) c4 (drL sn zs nu))) := hide (fun W u3 h b => ⟨h.1.trans (b.mono h.1.size), h.2.1.below b, h.2.2.1.below b, h.2.2.2.below b⟩)
  clear oW_0
  clear b
  have K : Hid (Below w.heap.size w w4 ∧ Blk w4 w.heap.size [.int .i64 sn, .slice da1 dl1 dc1] ∧ AbIs w4 w3.heap.size w4.heap.size a3 ((drL sn zs nu).length) c4 (drL sn zs nu)) := hide ⟨(unhide K).1, (unhide K).2.1, (unhide K).2.2.2⟩
  clear KEPT
  have KEPT : Hid (∀ W u3, (Below w.heap.size w W ∧ Blk W w.heap.size [.int .i64 sn, .slice da1 dl1 dc1] ∧ AbIs W w3.heap.size w4.heap.size a3 ((drL sn zs nu).length) c4 (drL sn zs nu)) → Below W.heap.size W u3 → (Below w.heap.size w u3 ∧ Blk u3 w.heap.size [.int .i64 sn, .slice da1 dl1 dc1] ∧ AbIs u3 w3.heap.size w4.heap.size a3 ((drL sn zs nu).length) c4 (drL sn zs nu))) := hide (fun W u3 h b => ⟨h.1.trans (b.mono h.1.size), h.2.1.below b, h.2.2.below b⟩)
  obtain ⟨w5, hw5⟩ : ∃ V, V = w4.alloc (Obj.cells #[.int .i64 sn, .slice a3 ((drL sn zs nu).length) c4] 57) := ⟨_, rfl⟩
  have b : Below w4.heap.size w4 w5 := by rw [hw5]; exact bel1 _
  have kx : Blk w5 w4.heap.size [.int .i64 sn, .slice a3 ((drL sn zs nu).length) c4] := by rw [hw5]; exact Blk.new _ _
  have S4 : Hid (w4.heap.size + 1 ≤ w5.heap.size) := hide (by rw [hw5]; simp)
  have S5 : Hid (w4.heap.size ≤ w5.heap.size) := hide b.size
  have K : Hid (Below w.heap.size w w5 ∧ Blk w5 w.heap.size [.int .i64 sn, .slice da1 dl1 dc1] ∧ AbIs w5 w3.heap.size w4.heap.size a3 ((drL sn zs nu).length) c4 (drL sn zs nu)) := hide ((unhide KEPT) _ _ (unhide K) b)
  have mPd0 : w5.cell? ⟨w.heap.size, 0, none⟩ = some (.int .i64 sn) := (unhide K).2.1.c 0 (by simp)
  have mPd1 : w5.cell? ⟨w.heap.size, 1, none⟩ = some (.slice da1 dl1 dc1) := (unhide K).2.1.c 1 (by simp)
  rw [hw5] at mPd0 mPd1
  obtain ⟨X5, hX5⟩ : ∃ X, w4.heap.size = X := ⟨_, rfl⟩
  rw [hX5] at kx
  have S6 : Hid (w4.heap.size = X5) := hide hX5
  have K : Hid (Below w.heap.size w w5 ∧ Blk w5 w.heap.size [.int .i64 sn, .slice da1 dl1 dc1] ∧ AbIs w5 w3.heap.size w4.heap.size a3 ((drL sn zs nu).length) c4 (drL sn zs nu) ∧ Blk w5 X5 [.int .i64 sn, .slice a3 ((drL sn zs nu).length) c4]) := hide ⟨(unhide K).1, (unhide K).2.1, (unhide K).2.2, kx⟩
  clear KEPT b kx
  have KEPT : Hid (∀ W u3, (Below w.heap.size w W ∧ Blk W w.heap.size [.int .i64 sn, .slice da1 dl1 dc1] ∧ AbIs W w3.heap.size w4.heap.size a3 ((drL sn zs nu).length) c4 (drL sn zs nu) ∧ Blk W X5 [.int .i64 sn, .slice a3 ((drL sn zs nu).length) c4]) → Below W.heap.size W u3 → (Below w.heap.size w u3 ∧ Blk u3 w.heap.size [.int .i64 sn, .slice da1 dl1 dc1] ∧ AbIs u3 w3.heap.size w4.heap.size a3 ((drL sn zs nu).length) c4 (drL sn zs nu) ∧ Blk u3 X5 [.int .i64 sn, .slice a3 ((drL sn zs nu).length) c4])) := hide (fun W u3 h b => ⟨h.1.trans (b.mono h.1.size), h.2.1.below b, h.2.2.1.below b, h.2.2.2.below b⟩)
  have Hw5 := hide hw5
  have HX5 := hide hX5
  clear hw5 hX5
  go_wp2_with fail
  try rw [← unhide Hw5]
  try rw [unhide HX5]
  clear Hw5 HX5 mPd0 mPd1
  refine (toAboard_own _ _ _ _ _ _ ((unhide Rd).below (unhide K).1) hd1).mono ?_
  rintro x w6 ⟨⟨g6, rfl, oc⟩, b⟩
  have S7 : Hid (w5.heap.size ≤ w6.heap.size) := hide b.size
  have K : Hid (Below w.heap.size w w6 ∧ Blk w6 w.heap.size [.int .i64 sn, .slice da1 dl1 dc1] ∧ AbIs w6 w3.heap.size w4.heap.size a3 ((drL sn zs nu).length) c4 (drL sn zs nu) ∧ Blk w6 X5 [.int .i64 sn, .slice a3 ((drL sn zs nu).length) c4]) := hide ((unhide KEPT) _ _ (unhide K) b)
  have K : Hid (Below w.heap.size w w6 ∧ Blk w6 w.heap.size [.int .i64 sn, .slice da1 dl1 dc1] ∧ AbIs w6 w3.heap.size w4.heap.size a3 ((drL sn zs nu).length) c4 (drL sn zs nu) ∧ Blk w6 X5 [.int .i64 sn, .slice a3 ((drL sn zs nu).length) c4] ∧ AbIs w6 w5.heap.size w6.heap.size (some ⟨g6, 0, none⟩) dl1 dl1 zs) := hide ⟨(unhide K).1, (unhide K).2.1, (unhide K).2.2.1, (unhide K).2.2.2, oc.is⟩
  clear KEPT oc b
  have KEPT : Hid (∀ W u3, (Below w.heap.size w W ∧ Blk W w.heap.size [.int .i64 sn, .slice da1 dl1 dc1] ∧ AbIs W w3.heap.size w4.heap.size a3 ((drL sn zs nu).length) c4 (drL sn zs nu) ∧ Blk W X5 [.int .i64 sn, .slice a3 ((drL sn zs nu).length) c4] ∧ AbIs W w5.heap.size w6.heap.size (some ⟨g6, 0, none⟩) dl1 dl1 zs) → Below W.heap.size W u3 → (Below w.heap.size w u3 ∧ Blk u3 w.heap.size [.int .i64 sn, .slice da1 dl1 dc1] ∧ AbIs u3 w3.heap.size w4.heap.size a3 ((drL sn zs nu).length) c4 (drL sn zs nu) ∧ Blk u3 X5 [.int .i64 sn, .slice a3 ((drL sn zs nu).length) c4] ∧ AbIs u3 w5.heap.size w6.heap.size (some ⟨g6, 0, none⟩) dl1 dl1 zs)) := hide (fun W u3 h b => ⟨h.1.trans (b.mono h.1.size), h.2.1.below b, h.2.2.1.below b, h.2.2.2.1.below b, h.2.2.2.2.below b⟩)
  obtain ⟨w7, hw7⟩ : ∃ V, V = w6.alloc (Obj.cells #[.int .i64 sn, .slice (some ⟨g6, 0, none⟩) dl1 dl1] 57) := ⟨_, rfl⟩
  have b : Below w6.heap.size w6 w7 := by rw [hw7]; exact bel1 _
  have kx : Blk w7 w6.heap.size [.int .i64 sn, .slice (some ⟨g6, 0, none⟩) dl1 dl1] := by rw [hw7]; exact Blk.new _ _
  have S8 : Hid (w6.heap.size + 1 ≤ w7.heap.size) := hide (by rw [hw7]; simp)
  have S9 : Hid (w6.heap.size ≤ w7.heap.size) := hide b.size
  have K : Hid (Below w.heap.size w w7 ∧ Blk w7 w.heap.size [.int .i64 sn, .slice da1 dl1 dc1] ∧ AbIs w7 w3.heap.size w4.heap.size a3 ((drL sn zs nu).length) c4 (drL sn zs nu) ∧ Blk w7 X5 [.int .i64 sn, .slice a3 ((drL sn zs nu).length) c4] ∧ AbIs w7 w5.heap.size w6.heap.size (some ⟨g6, 0, none⟩) dl1 dl1 zs) := hide ((unhide KEPT) _ _ (unhide K) b)
  have mPd0 : w7.cell? ⟨w.heap.size, 0, none⟩ = some (.int .i64 sn) := (unhide K).2.1.c 0 (by simp)
  have mPd1 : w7.cell? ⟨w.heap.size, 1, none⟩ = some (.slice da1 dl1 dc1) := (unhide K).2.1.c 1 (by simp)
  have mQW00 : w7.cell? ⟨X5, 0, none⟩ = some (.int .i64 sn) := (unhide K).2.2.2.1.c 0 (by simp)
  have mQW01 : w7.cell? ⟨X5, 1, none⟩ = some (.slice a3 ((drL sn zs nu).length) c4) := (unhide K).2.2.2.1.c 1 (by simp)
  rw [hw7] at mPd0 mPd1 mQW00 mQW01
  obtain ⟨X7, hX7⟩ : ∃ X, w6.heap.size = X := ⟨_, rfl⟩
  rw [hX7] at kx
  have S10 : Hid (w6.heap.size = X7) := hide hX7
  have K : Hid (Below w.heap.size w w7 ∧ Blk w7 w.heap.size [.int .i64 sn, .slice da1 dl1 dc1] ∧ AbIs w7 w3.heap.size w4.heap.size a3 ((drL sn zs nu).length) c4 (drL sn zs nu) ∧ Blk w7 X5 [.int .i64 sn, .slice a3 ((drL sn zs nu).length) c4] ∧ AbIs w7 w5.heap.size w6.heap.size (some ⟨g6, 0, none⟩) dl1 dl1 zs ∧ Blk w7 X7 [.int .i64 sn, .slice (some ⟨g6, 0, none⟩) dl1 dl1]) := hide ⟨(unhide K).1, (unhide K).2.1, (unhide K).2.2.1, (unhide K).2.2.2.1, (unhide K).2.2.2.2, kx⟩
  clear KEPT b kx
  have KEPT : Hid (∀ W u3, (Below w.heap.size w W ∧ Blk W w.heap.size [.int .i64 sn, .slice da1 dl1 dc1] ∧ AbIs W w3.heap.size w4.heap.size a3 ((drL sn zs nu).length) c4 (drL sn zs nu) ∧ Blk W X5 [.int .i64 sn, .slice a3 ((drL sn zs nu).length) c4] ∧ AbIs W w5.heap.size w6.heap.size (some ⟨g6, 0, none⟩) dl1 dl1 zs ∧ Blk W X7 [.int .i64 sn, .slice (some ⟨g6, 0, none⟩) dl1 dl1]) → Below W.heap.size W u3 → (Below w.heap.size w u3 ∧ Blk u3 w.heap.size [.int .i64 sn, .slice da1 dl1 dc1] ∧ AbIs u3 w3.heap.size w4.heap.size a3 ((drL sn zs nu).length) c4 (drL sn zs nu) ∧ Blk u3 X5 [.int .i64 sn, .slice a3 ((drL sn zs nu).length) c4] ∧ AbIs u3 w5.heap.size w6.heap.size (some ⟨g6, 0, none⟩) dl1 dl1 zs ∧ Blk u3 X7 [.int .i64 sn, .slice (some ⟨g6, 0, none⟩) dl1 dl1])) := hide (fun W u3 h b => ⟨h.1.trans (b.mono h.1.size), h.2.1.below b, h.2.2.1.below b, h.2.2.2.1.below b, h.2.2.2.2.1.below b, h.2.2.2.2.2.below b⟩)
  have Hw7 := hide hw7
  have HX7 := hide hX7
  clear hw7 hX7
  go_wp2_with fail
  try rw [← unhide Hw7]
  try rw [unhide HX7]
  clear Hw7 HX7 mPd0 mPd1 mQW00 mQW01
  refine (implDrop18_any _ _ _ _ _ _ _ (unhide K).2.2.2.2.1.read hd1).mono ?_
  rintro x w8 ⟨a8, c9, rfl, oG_0, b⟩
  have S11 : Hid (w7.heap.size ≤ w8.heap.size) := hide b.size
  have K : Hid (Below w.heap.size w w8 ∧ Blk w8 w.heap.size [.int .i64 sn, .slice da1 dl1 dc1] ∧ AbIs w8 w3.heap.size w4.heap.size a3 ((drL sn zs nu).length) c4 (drL sn zs nu) ∧ Blk w8 X5 [.int .i64 sn, .slice a3 ((drL sn zs nu).length) c4] ∧ AbIs w8 w5.heap.size w6.heap.size (some ⟨g6, 0, none⟩) dl1 dl1 zs ∧ Blk w8 X7 [.int .i64 sn, .slice (some ⟨g6, 0, none⟩) dl1 dl1]) := hide ((unhide KEPT) _ _ (unhide K) b)
  have K : Hid (Below w.heap.size w w8 ∧ Blk w8 w.heap.size [.int .i64 sn, .slice da1 dl1 dc1] ∧ AbIs w8 w3.heap.size w4.heap.size a3 ((drL sn zs nu).length) c4 (drL sn zs nu) ∧ Blk w8 X5 [.int .i64 sn, .slice a3 ((drL sn zs nu).length) c4] ∧ AbIs w8 w5.heap.size w6.heap.size (some ⟨g6, 0, none⟩) dl1 dl1 zs ∧ Blk w8 X7 [.int .i64 sn, .slice (some ⟨g6, 0, none⟩) dl1 dl1] ∧ AbIs w8 w7.heap.size w8.heap.size a8 ((drL sn zs nu).length) c9 (drL sn zs nu)) := hide ⟨(unhide K).1, (unhide K).2.1, (unhide K).2.2.1, (unhide K).2.2.2.1, (unhide K).2.2.2.2.1, (unhide K).2.2.2.2.2, oG_0.is⟩
  clear KEPT
  have KEPT : Hid (∀ W u3, (Below w.heap.size w W ∧ Blk W w.heap.size [.int .i64 sn, .slice da1 dl1 dc1] ∧ AbIs W w3.heap.size w4.heap.size a3 ((drL sn zs nu).length) c4 (drL sn zs nu) ∧ Blk W X5 [.int .i64 sn, .slice a3 ((drL sn zs nu).length) c4] ∧ AbIs W w5.heap.size w6.heap.size (some ⟨g6, 0, none⟩) dl1 dl1 zs ∧ Blk W X7 [.int .i64 sn, .slice (some ⟨g6, 0, none⟩) dl1 dl1] ∧ AbIs W w7.heap.size w8.heap.size a8 ((drL sn zs nu).length) c9 (drL sn zs nu)) → Below W.heap.size W u3 → (Below w.heap.size w u3 ∧ Blk u3 w.heap.size [.int .i64 sn, .slice da1 dl1 dc1] ∧ AbIs u3 w3.heap.size w4.heap.size a3 ((drL sn zs nu).length) c4 (drL sn zs nu) ∧ Blk u3 X5 [.int .i64 sn, .slice a3 ((drL sn zs nu).length) c4] ∧ AbIs u3 w5.heap.size w6.heap.size (some ⟨g6, 0, none⟩) dl1 dl1 zs ∧ Blk u3 X7 [.int .i64 sn, .slice (some ⟨g6, 0, none⟩) dl1 dl1] ∧ AbIs u3 w7.heap.size w8.heap.size a8 ((drL sn zs nu).length) c9 (drL sn zs nu))) := hide (fun W u3 h b => ⟨h.1.trans (b.mono h.1.size), h.2.1.below b, h.2.2.1.below b, h.2.2.2.1.below b, h.2.2.2.2.1.below b, h.2.2.2.2.2.1.below b, h.2.2.2.2.2.2.below b⟩)
  clear oG_0
  clear b
  obtain ⟨w9, hw9⟩ : ∃ V, V = w8.alloc (Obj.cells #[.int .i64 sn, .slice a8 ((drL sn zs nu).length) c9] 57) := ⟨_, rfl⟩
  have b : Below w8.heap.size w8 w9 := by rw [hw9]; exact bel1 _
  have kx : Blk w9 w8.heap.size [.int .i64 sn, .slice a8 ((drL sn zs nu).length) c9] := by rw [hw9]; exact Blk.new _ _
  have S12 : Hid (w8.heap.size + 1 ≤ w9.heap.size) := hide (by rw [hw9]; simp)
  have S13 : Hid (w8.heap.size ≤ w9.heap.size) := hide b.size
  have K : Hid (Below w.heap.size w w9 ∧ Blk w9 w.heap.size [.int .i64 sn, .slice da1 dl1 dc1] ∧ AbIs w9 w3.heap.size w4.heap.size a3 ((drL sn zs nu).length) c4 (drL sn zs nu) ∧ Blk w9 X5 [.int .i64 sn, .slice a3 ((drL sn zs nu).length) c4] ∧ AbIs w9 w5.heap.size w6.heap.size (some ⟨g6, 0, none⟩) dl1 dl1 zs ∧ Blk w9 X7 [.int .i64 sn, .slice (some ⟨g6, 0, none⟩) dl1 dl1] ∧ AbIs w9 w7.heap.size w8.heap.size a8 ((drL sn zs nu).length) c9 (drL sn zs nu)) := hide ((unhide KEPT) _ _ (unhide K) b)
  have mPd0 : w9.cell? ⟨w.heap.size, 0, none⟩ = some (.int .i64 sn) := (unhide K).2.1.c 0 (by simp)
  have mPd1 : w9.cell? ⟨w.heap.size, 1, none⟩ = some (.slice da1 dl1 dc1) := (unhide K).2.1.c 1 (by simp)
  have mQW00 : w9.cell? ⟨X5, 0, none⟩ = some (.int .i64 sn) := (unhide K).2.2.2.1.c 0 (by simp)
  have mQW01 : w9.cell? ⟨X5, 1, none⟩ = some (.slice a3 ((drL sn zs nu).length) c4) := (unhide K).2.2.2.1.c 1 (by simp)
  have mQXx00 : w9.cell? ⟨X7, 0, none⟩ = some (.int .i64 sn) := (unhide K).2.2.2.2.2.1.c 0 (by simp)
  have mQXx01 : w9.cell? ⟨X7, 1, none⟩ = some (.slice (some ⟨g6, 0, none⟩) dl1 dl1) := (unhide K).2.2.2.2.2.1.c 1 (by simp)
  rw [hw9] at mPd0 mPd1 mQW00 mQW01 mQXx00 mQXx01
  obtain ⟨X10, hX10⟩ : ∃ X, w8.heap.size = X := ⟨_, rfl⟩
  rw [hX10] at kx
  have S14 : Hid (w8.heap.size = X10) := hide hX10
  have K : Hid (Below w.heap.size w w9 ∧ Blk w9 w.heap.size [.int .i64 sn, .slice da1 dl1 dc1] ∧ AbIs w9 w3.heap.size w4.heap.size a3 ((drL sn zs nu).length) c4 (drL sn zs nu) ∧ Blk w9 X5 [.int .i64 sn, .slice a3 ((drL sn zs nu).length) c4] ∧ AbIs w9 w5.heap.size w6.heap.size (some ⟨g6, 0, none⟩) dl1 dl1 zs ∧ Blk w9 X7 [.int .i64 sn, .slice (some ⟨g6, 0, none⟩) dl1 dl1] ∧ AbIs w9 w7.heap.size w8.heap.size a8 ((drL sn zs nu).length) c9 (drL sn zs nu) ∧ Blk w9 X10 [.int .i64 sn, .slice a8 ((drL sn zs nu).length) c9]) := hide ⟨(unhide K).1, (unhide K).2.1, (unhide K).2.2.1, (unhide K).2.2.2.1, (unhide K).2.2.2.2.1, (unhide K).2.2.2.2.2.1, (unhide K).2.2.2.2.2.2, kx⟩
  clear KEPT b kx
  have KEPT : Hid (∀ W u3, (Below w.heap.size w W ∧ Blk W w.heap.size [.int .i64 sn, .slice da1 dl1 dc1] ∧ AbIs W w3.heap.size w4.heap.size a3 ((drL sn zs nu).length) c4 (drL sn zs nu) ∧ Blk W X5 [.int .i64 sn, .slice a3 ((drL sn zs nu).length) c4] ∧ AbIs W w5.heap.size w6.heap.size (some ⟨g6, 0, none⟩) dl1 dl1 zs ∧ Blk W X7 [.int .i64 sn, .slice (some ⟨g6, 0, none⟩) dl1 dl1] ∧ AbIs W w7.heap.size w8.heap.size a8 ((drL sn zs nu).length) c9 (drL sn zs nu) ∧ Blk W X10 [.int .i64 sn, .slice a8 ((drL sn zs nu).length) c9]) → Below W.heap.size W u3 → (Below w.heap.size w u3 ∧ Blk u3 w.heap.size [.int .i64 sn, .slice da1 dl1 dc1] ∧ AbIs u3 w3.heap.size w4.heap.size a3 ((drL sn zs nu).length) c4 (drL sn zs nu) ∧ Blk u3 X5 [.int .i64 sn, .slice a3 ((drL sn zs nu).length) c4] ∧ AbIs u3 w5.heap.size w6.heap.size (some ⟨g6, 0, none⟩) dl1 dl1 zs ∧ Blk u3 X7 [.int .i64 sn, .slice (some ⟨g6, 0, none⟩) dl1 dl1] ∧ AbIs u3 w7.heap.size w8.heap.size a8 ((drL sn zs nu).length) c9 (drL sn zs nu) ∧ Blk u3 X10 [.int .i64 sn, .slice a8 ((drL sn zs nu).length) c9])) := hide (fun W u3 h b => ⟨h.1.trans (b.mono h.1.size), h.2.1.below b, h.2.2.1.below b, h.2.2.2.1.below b, h.2.2.2.2.1.below b, h.2.2.2.2.2.1.below b, h.2.2.2.2.2.2.1.below b, h.2.2.2.2.2.2.2.below b⟩)
  have Hw9 := hide hw9
  have HX10 := hide hX10
  clear hw9 hX10
  go_wp2_with fail
  try rw [← unhide Hw9]
  try rw [unhide HX10]
  clear Hw9 HX10 mPd0 mPd1 mQW00 mQW01 mQXx00 mQXx01
  refine (eqAboard_same _ _ _ _ _ _ _ _ (unhide K).2.2.2.2.2.2.1.read (unhide K).2.2.1.read).mono ?_
  rintro x w10 ⟨rfl, b⟩
  have S15 : Hid (w9.heap.size ≤ w10.heap.size) := hide b.size
  have K : Hid (Below w.heap.size w w10 ∧ Blk w10 w.heap.size [.int .i64 sn, .slice da1 dl1 dc1] ∧ AbIs w10 w3.heap.size w4.heap.size a3 ((drL sn zs nu).length) c4 (drL sn zs nu) ∧ Blk w10 X5 [.int .i64 sn, .slice a3 ((drL sn zs nu).length) c4] ∧ AbIs w10 w5.heap.size w6.heap.size (some ⟨g6, 0, none⟩) dl1 dl1 zs ∧ Blk w10 X7 [.int .i64 sn, .slice (some ⟨g6, 0, none⟩) dl1 dl1] ∧ AbIs w10 w7.heap.size w8.heap.size a8 ((drL sn zs nu).length) c9 (drL sn zs nu) ∧ Blk w10 X10 [.int .i64 sn, .slice a8 ((drL sn zs nu).length) c9]) := hide ((unhide KEPT) _ _ (unhide K) b)
  clear b
  have mPd0 : w10.cell? ⟨w.heap.size, 0, none⟩ = some (.int .i64 sn) := (unhide K).2.1.c 0 (by simp)
  have mPd1 : w10.cell? ⟨w.heap.size, 1, none⟩ = some (.slice da1 dl1 dc1) := (unhide K).2.1.c 1 (by simp)
  have mQW00 : w10.cell? ⟨X5, 0, none⟩ = some (.int .i64 sn) := (unhide K).2.2.2.1.c 0 (by simp)
  have mQW01 : w10.cell? ⟨X5, 1, none⟩ = some (.slice a3 ((drL sn zs nu).length) c4) := (unhide K).2.2.2.1.c 1 (by simp)
  have mQXx00 : w10.cell? ⟨X7, 0, none⟩ = some (.int .i64 sn) := (unhide K).2.2.2.2.2.1.c 0 (by simp)
  have mQXx01 : w10.cell? ⟨X7, 1, none⟩ = some (.slice (some ⟨g6, 0, none⟩) dl1 dl1) := (unhide K).2.2.2.2.2.1.c 1 (by simp)
  have mQG00 : w10.cell? ⟨X10, 0, none⟩ = some (.int .i64 sn) := (unhide K).2.2.2.2.2.2.2.c 0 (by simp)
  have mQG01 : w10.cell? ⟨X10, 1, none⟩ = some (.slice a8 ((drL sn zs nu).length) c9) := (unhide K).2.2.2.2.2.2.2.c 1 (by simp)
  go_wp2_with fail
  clear mPd0 mPd1 mQW00 mQW01 mQXx00 mQXx01 mQG00 mQG01
  have mQXx00 : w10.cell? ⟨X7, 0, none⟩ = some (.int .i64 sn) := (unhide K).2.2.2.2.2.1.c 0 (by simp)
  have mQXx01 : w10.cell? ⟨X7, 1, none⟩ = some (.slice (some ⟨g6, 0, none⟩) dl1 dl1) := (unhide K).2.2.2.2.2.1.c 1 (by simp)
  have mPd0 : w10.cell? ⟨w.heap.size, 0, none⟩ = some (.int .i64 sn) := (unhide K).2.1.c 0 (by simp)
  have mPd1 : w10.cell? ⟨w.heap.size, 1, none⟩ = some (.slice da1 dl1 dc1) := (unhide K).2.1.c 1 (by simp)
  go_region_held3 (fun w' => w'.cell? ⟨X7, 0, none⟩ = some (.int .i64 sn) ∧ w'.cell? ⟨X7, 1, none⟩ = some (.slice (some ⟨g6, 0, none⟩) dl1 dl1) ∧ w'.cell? ⟨w.heap.size, 0, none⟩ = some (.int .i64 sn) ∧ w'.cell? ⟨w.heap.size, 1, none⟩ = some (.slice da1 dl1 dc1)) (go_keep)
    ((first
      | (go_at_call 24; refine (toAboard_own _ _ _ _ _ _ (by first | exact (unhide Rd).below (unhide K).1 | exact ((unhide Rd).below (unhide K).1).below (bel0d 1)) hd1).mono ?_; rintro x w11 ⟨⟨e11, rfl, oc⟩, b⟩; have IC := hide oc.read; clear oc; have S16 : Hid (w10.heap.size ≤ w11.heap.size) := hide b.size; have K := hide (show Below w.heap.size w w11 ∧ Blk w11 w.heap.size [.int .i64 sn, .slice da1 dl1 dc1] ∧ AbIs w11 w3.heap.size w4.heap.size a3 ((drL sn zs nu).length) c4 (drL sn zs nu) ∧ Blk w11 X5 [.int .i64 sn, .slice a3 ((drL sn zs nu).length) c4] ∧ AbIs w11 w5.heap.size w6.heap.size (some ⟨g6, 0, none⟩) dl1 dl1 zs ∧ Blk w11 X7 [.int .i64 sn, .slice (some ⟨g6, 0, none⟩) dl1 dl1] ∧ AbIs w11 w7.heap.size w8.heap.size a8 ((drL sn zs nu).length) c9 (drL sn zs nu) ∧ Blk w11 X10 [.int .i64 sn, .slice a8 ((drL sn zs nu).length) c9] from by first | exact (unhide KEPT) _ _ (unhide K) b | exact (unhide KEPT) _ _ ((unhide KEPT) _ _ (unhide K) (bel0d 1)) b); clear mQXx00 mQXx01 mPd0 mPd1; have mQXx00 : w11.cell? ⟨X7, 0, none⟩ = some (.int .i64 sn) := (unhide K).2.2.2.2.2.1.c 0 (by simp); have mQXx01 : w11.cell? ⟨X7, 1, none⟩ = some (.slice (some ⟨g6, 0, none⟩) dl1 dl1) := (unhide K).2.2.2.2.2.1.c 1 (by simp); have mPd0 : w11.cell? ⟨w.heap.size, 0, none⟩ = some (.int .i64 sn) := (unhide K).2.1.c 0 (by simp); have mPd1 : w11.cell? ⟨w.heap.size, 1, none⟩ = some (.slice da1 dl1 dc1) := (unhide K).2.1.c 1 (by simp); clear b)
      | (go_at_call 26; refine (eqAboard_same _ _ _ _ _ _ _ _ (by first | exact (unhide K).2.2.2.2.1.read | exact (unhide K).2.2.2.2.1.read.below (bel0d 1)) (by first | exact unhide IC | exact (unhide IC).below (bel0d 1))).mono ?_; rintro x w12 ⟨rfl, b⟩; clear IC; have S17 : Hid (w11.heap.size ≤ w12.heap.size) := hide b.size; have K := hide (show Below w.heap.size w w12 ∧ Blk w12 w.heap.size [.int .i64 sn, .slice da1 dl1 dc1] ∧ AbIs w12 w3.heap.size w4.heap.size a3 ((drL sn zs nu).length) c4 (drL sn zs nu) ∧ Blk w12 X5 [.int .i64 sn, .slice a3 ((drL sn zs nu).length) c4] ∧ AbIs w12 w5.heap.size w6.heap.size (some ⟨g6, 0, none⟩) dl1 dl1 zs ∧ Blk w12 X7 [.int .i64 sn, .slice (some ⟨g6, 0, none⟩) dl1 dl1] ∧ AbIs w12 w7.heap.size w8.heap.size a8 ((drL sn zs nu).length) c9 (drL sn zs nu) ∧ Blk w12 X10 [.int .i64 sn, .slice a8 ((drL sn zs nu).length) c9] from by first | exact (unhide KEPT) _ _ (unhide K) b | exact (unhide KEPT) _ _ ((unhide KEPT) _ _ (unhide K) (bel0d 1)) b); clear mQXx00 mQXx01 mPd0 mPd1; have mQXx00 : w12.cell? ⟨X7, 0, none⟩ = some (.int .i64 sn) := (unhide K).2.2.2.2.2.1.c 0 (by simp); have mQXx01 : w12.cell? ⟨X7, 1, none⟩ = some (.slice (some ⟨g6, 0, none⟩) dl1 dl1) := (unhide K).2.2.2.2.2.1.c 1 (by simp); have mPd0 : w12.cell? ⟨w.heap.size, 0, none⟩ = some (.int .i64 sn) := (unhide K).2.1.c 0 (by simp); have mPd1 : w12.cell? ⟨w.heap.size, 1, none⟩ = some (.slice da1 dl1 dc1) := (unhide K).2.1.c 1 (by simp); clear b)))
  clear mQXx00 mQXx01 mPd0 mPd1
  have mPd0 : w12.cell? ⟨w.heap.size, 0, none⟩ = some (.int .i64 sn) := (unhide K).2.1.c 0 (by simp)
  have mPd1 : w12.cell? ⟨w.heap.size, 1, none⟩ = some (.slice da1 dl1 dc1) := (unhide K).2.1.c 1 (by simp)
  have mQW00 : w12.cell? ⟨X5, 0, none⟩ = some (.int .i64 sn) := (unhide K).2.2.2.1.c 0 (by simp)
  have mQW01 : w12.cell? ⟨X5, 1, none⟩ = some (.slice a3 ((drL sn zs nu).length) c4) := (unhide K).2.2.2.1.c 1 (by simp)
  have mQXx00 : w12.cell? ⟨X7, 0, none⟩ = some (.int .i64 sn) := (unhide K).2.2.2.2.2.1.c 0 (by simp)
  have mQXx01 : w12.cell? ⟨X7, 1, none⟩ = some (.slice (some ⟨g6, 0, none⟩) dl1 dl1) := (unhide K).2.2.2.2.2.1.c 1 (by simp)
  have mQG00 : w12.cell? ⟨X10, 0, none⟩ = some (.int .i64 sn) := (unhide K).2.2.2.2.2.2.2.c 0 (by simp)
  have mQG01 : w12.cell? ⟨X10, 1, none⟩ = some (.slice a8 ((drL sn zs nu).length) c9) := (unhide K).2.2.2.2.2.2.2.c 1 (by simp)
  go_wp2_with fail
  clear mPd0 mPd1 mQW00 mQW01 mQXx00 mQXx01 mQG00 mQG01
  refine (markAboard_own _ _ _ _ _ 1 _ _ _ (unhide K).2.2.2.2.1 hd1 (by omega) (by omega)).mono ?_
  rintro x w13 ⟨rfl, om, on⟩
  have kb13 := kZ_bd hd1 1
  have S18 : Hid (w12.heap.size ≤ w13.heap.size) := hide on.size
  have K : Hid (Below w.heap.size w w13 ∧ Blk w13 w.heap.size [.int .i64 sn, .slice da1 dl1 dc1] ∧ AbIs w13 w3.heap.size w4.heap.size a3 ((drL sn zs nu).length) c4 (drL sn zs nu) ∧ Blk w13 X5 [.int .i64 sn, .slice a3 ((drL sn zs nu).length) c4] ∧ Blk w13 X7 [.int .i64 sn, .slice (some ⟨g6, 0, none⟩) dl1 dl1] ∧ AbIs w13 w7.heap.size w8.heap.size a8 ((drL sn zs nu).length) c9 (drL sn zs nu) ∧ Blk w13 X10 [.int .i64 sn, .slice a8 ((drL sn zs nu).length) c9]) := hide ⟨below_only (unhide K).1 on (by have s0 := unhide S0; have s1 := unhide S1; have s2 := unhide S2; have s3 := unhide S3; have s4 := unhide S4; have s5 := unhide S5; have s6 := unhide S6; have s7 := unhide S7; have s8 := unhide S8; have s9 := unhide S9; have s10 := unhide S10; have s11 := unhide S11; have s12 := unhide S12; have s13 := unhide S13; have s14 := unhide S14; have s15 := unhide S15; have s16 := unhide S16; have s17 := unhide S17; have s18 := unhide S18; omega) (Nat.le_refl _), (unhide K).2.1.only on (by have s0 := unhide S0; have s1 := unhide S1; have s2 := unhide S2; have s3 := unhide S3; have s4 := unhide S4; have s5 := unhide S5; have s6 := unhide S6; have s7 := unhide S7; have s8 := unhide S8; have s9 := unhide S9; have s10 := unhide S10; have s11 := unhide S11; have s12 := unhide S12; have s13 := unhide S13; have s14 := unhide S14; have s15 := unhide S15; have s16 := unhide S16; have s17 := unhide S17; have s18 := unhide S18; omega), (unhide K).2.2.1.only on (by have s0 := unhide S0; have s1 := unhide S1; have s2 := unhide S2; have s3 := unhide S3; have s4 := unhide S4; have s5 := unhide S5; have s6 := unhide S6; have s7 := unhide S7; have s8 := unhide S8; have s9 := unhide S9; have s10 := unhide S10; have s11 := unhide S11; have s12 := unhide S12; have s13 := unhide S13; have s14 := unhide S14; have s15 := unhide S15; have s16 := unhide S16; have s17 := unhide S17; have s18 := unhide S18; omega), (unhide K).2.2.2.1.only on (by have s0 := unhide S0; have s1 := unhide S1; have s2 := unhide S2; have s3 := unhide S3; have s4 := unhide S4; have s5 := unhide S5; have s6 := unhide S6; have s7 := unhide S7; have s8 := unhide S8; have s9 := unhide S9; have s10 := unhide S10; have s11 := unhide S11; have s12 := unhide S12; have s13 := unhide S13; have s14 := unhide S14; have s15 := unhide S15; have s16 := unhide S16; have s17 := unhide S17; have s18 := unhide S18; omega), (unhide K).2.2.2.2.2.1.only on (by have s0 := unhide S0; have s1 := unhide S1; have s2 := unhide S2; have s3 := unhide S3; have s4 := unhide S4; have s5 := unhide S5; have s6 := unhide S6; have s7 := unhide S7; have s8 := unhide S8; have s9 := unhide S9; have s10 := unhide S10; have s11 := unhide S11; have s12 := unhide S12; have s13 := unhide S13; have s14 := unhide S14; have s15 := unhide S15; have s16 := unhide S16; have s17 := unhide S17; have s18 := unhide S18; omega), (unhide K).2.2.2.2.2.2.1.only on (by have s0 := unhide S0; have s1 := unhide S1; have s2 := unhide S2; have s3 := unhide S3; have s4 := unhide S4; have s5 := unhide S5; have s6 := unhide S6; have s7 := unhide S7; have s8 := unhide S8; have s9 := unhide S9; have s10 := unhide S10; have s11 := unhide S11; have s12 := unhide S12; have s13 := unhide S13; have s14 := unhide S14; have s15 := unhide S15; have s16 := unhide S16; have s17 := unhide S17; have s18 := unhide S18; omega), (unhide K).2.2.2.2.2.2.2.only on (by have s0 := unhide S0; have s1 := unhide S1; have s2 := unhide S2; have s3 := unhide S3; have s4 := unhide S4; have s5 := unhide S5; have s6 := unhide S6; have s7 := unhide S7; have s8 := unhide S8; have s9 := unhide S9; have s10 := unhide S10; have s11 := unhide S11; have s12 := unhide S12; have s13 := unhide S13; have s14 := unhide S14; have s15 := unhide S15; have s16 := unhide S16; have s17 := unhide S17; have s18 := unhide S18; omega)⟩
  clear KEPT om on
  have KEPT : Hid (∀ W u3, (Below w.heap.size w W ∧ Blk W w.heap.size [.int .i64 sn, .slice da1 dl1 dc1] ∧ AbIs W w3.heap.size w4.heap.size a3 ((drL sn zs nu).length) c4 (drL sn zs nu) ∧ Blk W X5 [.int .i64 sn, .slice a3 ((drL sn zs nu).length) c4] ∧ Blk W X7 [.int .i64 sn, .slice (some ⟨g6, 0, none⟩) dl1 dl1] ∧ AbIs W w7.heap.size w8.heap.size a8 ((drL sn zs nu).length) c9 (drL sn zs nu) ∧ Blk W X10 [.int .i64 sn, .slice a8 ((drL sn zs nu).length) c9]) → Below W.heap.size W u3 → (Below w.heap.size w u3 ∧ Blk u3 w.heap.size [.int .i64 sn, .slice da1 dl1 dc1] ∧ AbIs u3 w3.heap.size w4.heap.size a3 ((drL sn zs nu).length) c4 (drL sn zs nu) ∧ Blk u3 X5 [.int .i64 sn, .slice a3 ((drL sn zs nu).length) c4] ∧ Blk u3 X7 [.int .i64 sn, .slice (some ⟨g6, 0, none⟩) dl1 dl1] ∧ AbIs u3 w7.heap.size w8.heap.size a8 ((drL sn zs nu).length) c9 (drL sn zs nu) ∧ Blk u3 X10 [.int .i64 sn, .slice a8 ((drL sn zs nu).length) c9])) := hide (fun W u3 h b => ⟨h.1.trans (b.mono h.1.size), h.2.1.below b, h.2.2.1.below b, h.2.2.2.1.below b, h.2.2.2.2.1.below b, h.2.2.2.2.2.1.below b, h.2.2.2.2.2.2.below b⟩)
  have nk13 : ¬ (kZ zs 1 < 0) := by omega
  have mPd0 : w13.cell? ⟨w.heap.size, 0, none⟩ = some (.int .i64 sn) := (unhide K).2.1.c 0 (by simp)
  have mPd1 : w13.cell? ⟨w.heap.size, 1, none⟩ = some (.slice da1 dl1 dc1) := (unhide K).2.1.c 1 (by simp)
  have mQW00 : w13.cell? ⟨X5, 0, none⟩ = some (.int .i64 sn) := (unhide K).2.2.2.1.c 0 (by simp)
  have mQW01 : w13.cell? ⟨X5, 1, none⟩ = some (.slice a3 ((drL sn zs nu).length) c4) := (unhide K).2.2.2.1.c 1 (by simp)
  have mQXx00 : w13.cell? ⟨X7, 0, none⟩ = some (.int .i64 sn) := (unhide K).2.2.2.2.1.c 0 (by simp)
  have mQXx01 : w13.cell? ⟨X7, 1, none⟩ = some (.slice (some ⟨g6, 0, none⟩) dl1 dl1) := (unhide K).2.2.2.2.1.c 1 (by simp)
  have mQG00 : w13.cell? ⟨X10, 0, none⟩ = some (.int .i64 sn) := (unhide K).2.2.2.2.2.2.c 0 (by simp)
  have mQG01 : w13.cell? ⟨X10, 1, none⟩ = some (.slice a8 ((drL sn zs nu).length) c9) := (unhide K).2.2.2.2.2.2.c 1 (by simp)
  go_wp2_with fail
  clear mPd0 mPd1 mQW00 mQW01 mQXx00 mQXx01 mQG00 mQG01
  refine (eqAboard_same _ _ _ _ _ _ _ _ (unhide K).2.2.2.2.2.1.read (unhide K).2.2.1.read).mono ?_
  rintro x w14 ⟨rfl, b⟩
  have S19 : Hid (w13.heap.size ≤ w14.heap.size) := hide b.size
  have K : Hid (Below w.heap.size w w14 ∧ Blk w14 w.heap.size [.int .i64 sn, .slice da1 dl1 dc1] ∧ AbIs w14 w3.heap.size w4.heap.size a3 ((drL sn zs nu).length) c4 (drL sn zs nu) ∧ Blk w14 X5 [.int .i64 sn, .slice a3 ((drL sn zs nu).length) c4] ∧ Blk w14 X7 [.int .i64 sn, .slice (some ⟨g6, 0, none⟩) dl1 dl1] ∧ AbIs w14 w7.heap.size w8.heap.size a8 ((drL sn zs nu).length) c9 (drL sn zs nu) ∧ Blk w14 X10 [.int .i64 sn, .slice a8 ((drL sn zs nu).length) c9]) := hide ((unhide KEPT) _ _ (unhide K) b)
  clear b
  have mPd0 : w14.cell? ⟨w.heap.size, 0, none⟩ = some (.int .i64 sn) := (unhide K).2.1.c 0 (by simp)
  have mPd1 : w14.cell? ⟨w.heap.size, 1, none⟩ = some (.slice da1 dl1 dc1) := (unhide K).2.1.c 1 (by simp)
  have mQW00 : w14.cell? ⟨X5, 0, none⟩ = some (.int .i64 sn) := (unhide K).2.2.2.1.c 0 (by simp)
  have mQW01 : w14.cell? ⟨X5, 1, none⟩ = some (.slice a3 ((drL sn zs nu).length) c4) := (unhide K).2.2.2.1.c 1 (by simp)
  have mQXx00 : w14.cell? ⟨X7, 0, none⟩ = some (.int .i64 sn) := (unhide K).2.2.2.2.1.c 0 (by simp)
  have mQXx01 : w14.cell? ⟨X7, 1, none⟩ = some (.slice (some ⟨g6, 0, none⟩) dl1 dl1) := (unhide K).2.2.2.2.1.c 1 (by simp)
  have mQG00 : w14.cell? ⟨X10, 0, none⟩ = some (.int .i64 sn) := (unhide K).2.2.2.2.2.2.c 0 (by simp)
  have mQG01 : w14.cell? ⟨X10, 1, none⟩ = some (.slice a8 ((drL sn zs nu).length) c9) := (unhide K).2.2.2.2.2.2.c 1 (by simp)
  go_wp2_with fail
  clear mPd0 mPd1 mQW00 mQW01 mQXx00 mQXx01 mQG00 mQG01
  refine (markAboard_own _ _ _ _ _ 1 _ _ _ (unhide K).2.2.2.2.2.1 ((drL_lz hd1 : LzB (drL sn zs nu))) (by omega) (by omega)).mono ?_
  rintro x w15 ⟨rfl, om, on⟩
  have kb15 := kZ_bd ((drL_lz hd1 : LzB (drL sn zs nu))) 1
  have S20 : Hid (w14.heap.size ≤ w15.heap.size) := hide on.size
  have K : Hid (Below w.heap.size w w15 ∧ Blk w15 w.heap.size [.int .i64 sn, .slice da1 dl1 dc1] ∧ AbIs w15 w3.heap.size w4.heap.size a3 ((drL sn zs nu).length) c4 (drL sn zs nu) ∧ Blk w15 X5 [.int .i64 sn, .slice a3 ((drL sn zs nu).length) c4] ∧ Blk w15 X7 [.int .i64 sn, .slice (some ⟨g6, 0, none⟩) dl1 dl1] ∧ AbMk w15 w7.heap.size w8.heap.size a8 ((drL sn zs nu).length) c9 (drL sn zs nu) 1 ∧ Blk w15 X10 [.int .i64 sn, .slice a8 ((drL sn zs nu).length) c9]) := hide ⟨below_only (unhide K).1 on (by have s0 := unhide S0; have s1 := unhide S1; have s2 := unhide S2; have s3 := unhide S3; have s4 := unhide S4; have s5 := unhide S5; have s6 := unhide S6; have s7 := unhide S7; have s8 := unhide S8; have s9 := unhide S9; have s10 := unhide S10; have s11 := unhide S11; have s12 := unhide S12; have s13 := unhide S13; have s14 := unhide S14; have s15 := unhide S15; have s16 := unhide S16; have s17 := unhide S17; have s18 := unhide S18; have s19 := unhide S19; have s20 := unhide S20; omega) (Nat.le_refl _), (unhide K).2.1.only on (by have s0 := unhide S0; have s1 := unhide S1; have s2 := unhide S2; have s3 := unhide S3; have s4 := unhide S4; have s5 := unhide S5; have s6 := unhide S6; have s7 := unhide S7; have s8 := unhide S8; have s9 := unhide S9; have s10 := unhide S10; have s11 := unhide S11; have s12 := unhide S12; have s13 := unhide S13; have s14 := unhide S14; have s15 := unhide S15; have s16 := unhide S16; have s17 := unhide S17; have s18 := unhide S18; have s19 := unhide S19; have s20 := unhide S20; omega), (unhide K).2.2.1.only on (by have s0 := unhide S0; have s1 := unhide S1; have s2 := unhide S2; have s3 := unhide S3; have s4 := unhide S4; have s5 := unhide S5; have s6 := unhide S6; have s7 := unhide S7; have s8 := unhide S8; have s9 := unhide S9; have s10 := unhide S10; have s11 := unhide S11; have s12 := unhide S12; have s13 := unhide S13; have s14 := unhide S14; have s15 := unhide S15; have s16 := unhide S16; have s17 := unhide S17; have s18 := unhide S18; have s19 := unhide S19; have s20 := unhide S20; omega), (unhide K).2.2.2.1.only on (by have s0 := unhide S0; have s1 := unhide S1; have s2 := unhide S2; have s3 := unhide S3; have s4 := unhide S4; have s5 := unhide S5; have s6 := unhide S6; have s7 := unhide S7; have s8 := unhide S8; have s9 := unhide S9; have s10 := unhide S10; have s11 := unhide S11; have s12 := unhide S12; have s13 := unhide S13; have s14 := unhide S14; have s15 := unhide S15; have s16 := unhide S16; have s17 := unhide S17; have s18 := unhide S18; have s19 := unhide S19; have s20 := unhide S20; omega), (unhide K).2.2.2.2.1.only on (by have s0 := unhide S0; have s1 := unhide S1; have s2 := unhide S2; have s3 := unhide S3; have s4 := unhide S4; have s5 := unhide S5; have s6 := unhide S6; have s7 := unhide S7; have s8 := unhide S8; have s9 := unhide S9; have s10 := unhide S10; have s11 := unhide S11; have s12 := unhide S12; have s13 := unhide S13; have s14 := unhide S14; have s15 := unhide S15; have s16 := unhide S16; have s17 := unhide S17; have s18 := unhide S18; have s19 := unhide S19; have s20 := unhide S20; omega), om, (unhide K).2.2.2.2.2.2.only on (by have s0 := unhide S0; have s1 := unhide S1; have s2 := unhide S2; have s3 := unhide S3; have s4 := unhide S4; have s5 := unhide S5; have s6 := unhide S6; have s7 := unhide S7; have s8 := unhide S8; have s9 := unhide S9; have s10 := unhide S10; have s11 := unhide S11; have s12 := unhide S12; have s13 := unhide S13; have s14 := unhide S14; have s15 := unhide S15; have s16 := unhide S16; have s17 := unhide S17; have s18 := unhide S18; have s19 := unhide S19; have s20 := unhide S20; omega)⟩
  clear KEPT om on
  have KEPT : Hid (∀ W u3, (Below w.heap.size w W ∧ Blk W w.heap.size [.int .i64 sn, .slice da1 dl1 dc1] ∧ AbIs W w3.heap.size w4.heap.size a3 ((drL sn zs nu).length) c4 (drL sn zs nu) ∧ Blk W X5 [.int .i64 sn, .slice a3 ((drL sn zs nu).length) c4] ∧ Blk W X7 [.int .i64 sn, .slice (some ⟨g6, 0, none⟩) dl1 dl1] ∧ AbMk W w7.heap.size w8.heap.size a8 ((drL sn zs nu).length) c9 (drL sn zs nu) 1 ∧ Blk W X10 [.int .i64 sn, .slice a8 ((drL sn zs nu).length) c9]) → Below W.heap.size W u3 → (Below w.heap.size w u3 ∧ Blk u3 w.heap.size [.int .i64 sn, .slice da1 dl1 dc1] ∧ AbIs u3 w3.heap.size w4.heap.size a3 ((drL sn zs nu).length) c4 (drL sn zs nu) ∧ Blk u3 X5 [.int .i64 sn, .slice a3 ((drL sn zs nu).length) c4] ∧ Blk u3 X7 [.int .i64 sn, .slice (some ⟨g6, 0, none⟩) dl1 dl1] ∧ AbMk u3 w7.heap.size w8.heap.size a8 ((drL sn zs nu).length) c9 (drL sn zs nu) 1 ∧ Blk u3 X10 [.int .i64 sn, .slice a8 ((drL sn zs nu).length) c9])) := hide (fun W u3 h b => ⟨h.1.trans (b.mono h.1.size), h.2.1.below b, h.2.2.1.below b, h.2.2.2.1.below b, h.2.2.2.2.1.below b, h.2.2.2.2.2.1.below b, h.2.2.2.2.2.2.below b⟩)
  have mPd0 : w15.cell? ⟨w.heap.size, 0, none⟩ = some (.int .i64 sn) := (unhide K).2.1.c 0 (by simp)
  have mPd1 : w15.cell? ⟨w.heap.size, 1, none⟩ = some (.slice da1 dl1 dc1) := (unhide K).2.1.c 1 (by simp)
  have mQW00 : w15.cell? ⟨X5, 0, none⟩ = some (.int .i64 sn) := (unhide K).2.2.2.1.c 0 (by simp)
  have mQW01 : w15.cell? ⟨X5, 1, none⟩ = some (.slice a3 ((drL sn zs nu).length) c4) := (unhide K).2.2.2.1.c 1 (by simp)
  have mQXx00 : w15.cell? ⟨X7, 0, none⟩ = some (.int .i64 sn) := (unhide K).2.2.2.2.1.c 0 (by simp)
  have mQXx01 : w15.cell? ⟨X7, 1, none⟩ = some (.slice (some ⟨g6, 0, none⟩) dl1 dl1) := (unhide K).2.2.2.2.1.c 1 (by simp)
  have mQG00 : w15.cell? ⟨X10, 0, none⟩ = some (.int .i64 sn) := (unhide K).2.2.2.2.2.2.c 0 (by simp)
  have mQG01 : w15.cell? ⟨X10, 1, none⟩ = some (.slice a8 ((drL sn zs nu).length) c9) := (unhide K).2.2.2.2.2.2.c 1 (by simp)
  go_wp2_with fail
  clear mPd0 mPd1 mQW00 mQW01 mQXx00 mQXx01 mQG00 mQG01
  refine (heldAboard_any _ _ _ _ _ 1 _ _ _ (unhide K).2.2.2.2.2.1 ((drL_lz hd1 : LzB (drL sn zs nu))) (by omega) (by omega)).mono ?_
  rintro x w16 ⟨rfl, b⟩
  have kb16 := kZ_bd ((drL_lz hd1 : LzB (drL sn zs nu))) 1
  have S21 : Hid (w15.heap.size ≤ w16.heap.size) := hide b.size
  have K : Hid (Below w.heap.size w w16 ∧ Blk w16 w.heap.size [.int .i64 sn, .slice da1 dl1 dc1] ∧ AbIs w16 w3.heap.size w4.heap.size a3 ((drL sn zs nu).length) c4 (drL sn zs nu) ∧ Blk w16 X5 [.int .i64 sn, .slice a3 ((drL sn zs nu).length) c4] ∧ Blk w16 X7 [.int .i64 sn, .slice (some ⟨g6, 0, none⟩) dl1 dl1] ∧ AbMk w16 w7.heap.size w8.heap.size a8 ((drL sn zs nu).length) c9 (drL sn zs nu) 1 ∧ Blk w16 X10 [.int .i64 sn, .slice a8 ((drL sn zs nu).length) c9]) := hide ((unhide KEPT) _ _ (unhide K) b)
  clear b
  have nq16 : ¬ (kZ (drL sn zs nu) 1 < 0) := by omega
  have nn16 : (kZ (drL sn zs nu) 1 != kZ (drL sn zs nu) 1) = false := by simp
  have mPd0 : w16.cell? ⟨w.heap.size, 0, none⟩ = some (.int .i64 sn) := (unhide K).2.1.c 0 (by simp)
  have mPd1 : w16.cell? ⟨w.heap.size, 1, none⟩ = some (.slice da1 dl1 dc1) := (unhide K).2.1.c 1 (by simp)
  have mQW00 : w16.cell? ⟨X5, 0, none⟩ = some (.int .i64 sn) := (unhide K).2.2.2.1.c 0 (by simp)
  have mQW01 : w16.cell? ⟨X5, 1, none⟩ = some (.slice a3 ((drL sn zs nu).length) c4) := (unhide K).2.2.2.1.c 1 (by simp)
  have mQXx00 : w16.cell? ⟨X7, 0, none⟩ = some (.int .i64 sn) := (unhide K).2.2.2.2.1.c 0 (by simp)
  have mQXx01 : w16.cell? ⟨X7, 1, none⟩ = some (.slice (some ⟨g6, 0, none⟩) dl1 dl1) := (unhide K).2.2.2.2.1.c 1 (by simp)
  have mQG00 : w16.cell? ⟨X10, 0, none⟩ = some (.int .i64 sn) := (unhide K).2.2.2.2.2.2.c 0 (by simp)
  have mQG01 : w16.cell? ⟨X10, 1, none⟩ = some (.slice a8 ((drL sn zs nu).length) c9) := (unhide K).2.2.2.2.2.2.c 1 (by simp)
  go_wp2_with fail
  clear mPd0 mPd1 mQW00 mQW01 mQXx00 mQXx01 mQG00 mQG01
  refine (toAboard_own _ _ _ _ _ _ ((unhide Rd).below (unhide K).1) hd1).mono ?_
  rintro x w17 ⟨⟨g12, rfl, oc⟩, b⟩
  have S22 : Hid (w16.heap.size ≤ w17.heap.size) := hide b.size
  have K : Hid (Below w.heap.size w w17 ∧ Blk w17 w.heap.size [.int .i64 sn, .slice da1 dl1 dc1] ∧ AbIs w17 w3.heap.size w4.heap.size a3 ((drL sn zs nu).length) c4 (drL sn zs nu) ∧ Blk w17 X5 [.int .i64 sn, .slice a3 ((drL sn zs nu).length) c4] ∧ Blk w17 X7 [.int .i64 sn, .slice (some ⟨g6, 0, none⟩) dl1 dl1] ∧ AbMk w17 w7.heap.size w8.heap.size a8 ((drL sn zs nu).length) c9 (drL sn zs nu) 1 ∧ Blk w17 X10 [.int .i64 sn, .slice a8 ((drL sn zs nu).length) c9]) := hide ((unhide KEPT) _ _ (unhide K) b)
  have K : Hid (Below w.heap.size w w17 ∧ Blk w17 w.heap.size [.int .i64 sn, .slice da1 dl1 dc1] ∧ AbIs w17 w3.heap.size w4.heap.size a3 ((drL sn zs nu).length) c4 (drL sn zs nu) ∧ Blk w17 X5 [.int .i64 sn, .slice a3 ((drL sn zs nu).length) c4] ∧ Blk w17 X7 [.int .i64 sn, .slice (some ⟨g6, 0, none⟩) dl1 dl1] ∧ AbMk w17 w7.heap.size w8.heap.size a8 ((drL sn zs nu).length) c9 (drL sn zs nu) 1 ∧ Blk w17 X10 [.int .i64 sn, .slice a8 ((drL sn zs nu).length) c9] ∧ AbIs w17 w16.heap.size w17.heap.size (some ⟨g12, 0, none⟩) dl1 dl1 zs) := hide ⟨(unhide K).1, (unhide K).2.1, (unhide K).2.2.1, (unhide K).2.2.2.1, (unhide K).2.2.2.2.1, (unhide K).2.2.2.2.2.1, (unhide K).2.2.2.2.2.2, oc.is⟩
  clear KEPT oc b
  have KEPT : Hid (∀ W u3, (Below w.heap.size w W ∧ Blk W w.heap.size [.int .i64 sn, .slice da1 dl1 dc1] ∧ AbIs W w3.heap.size w4.heap.size a3 ((drL sn zs nu).length) c4 (drL sn zs nu) ∧ Blk W X5 [.int .i64 sn, .slice a3 ((drL sn zs nu).length) c4] ∧ Blk W X7 [.int .i64 sn, .slice (some ⟨g6, 0, none⟩) dl1 dl1] ∧ AbMk W w7.heap.size w8.heap.size a8 ((drL sn zs nu).length) c9 (drL sn zs nu) 1 ∧ Blk W X10 [.int .i64 sn, .slice a8 ((drL sn zs nu).length) c9] ∧ AbIs W w16.heap.size w17.heap.size (some ⟨g12, 0, none⟩) dl1 dl1 zs) → Below W.heap.size W u3 → (Below w.heap.size w u3 ∧ Blk u3 w.heap.size [.int .i64 sn, .slice da1 dl1 dc1] ∧ AbIs u3 w3.heap.size w4.heap.size a3 ((drL sn zs nu).length) c4 (drL sn zs nu) ∧ Blk u3 X5 [.int .i64 sn, .slice a3 ((drL sn zs nu).length) c4] ∧ Blk u3 X7 [.int .i64 sn, .slice (some ⟨g6, 0, none⟩) dl1 dl1] ∧ AbMk u3 w7.heap.size w8.heap.size a8 ((drL sn zs nu).length) c9 (drL sn zs nu) 1 ∧ Blk u3 X10 [.int .i64 sn, .slice a8 ((drL sn zs nu).length) c9] ∧ AbIs u3 w16.heap.size w17.heap.size (some ⟨g12, 0, none⟩) dl1 dl1 zs)) := hide (fun W u3 h b => ⟨h.1.trans (b.mono h.1.size), h.2.1.below b, h.2.2.1.below b, h.2.2.2.1.below b, h.2.2.2.2.1.below b, h.2.2.2.2.2.1.below b, h.2.2.2.2.2.2.1.below b, h.2.2.2.2.2.2.2.below b⟩)
  have mPd0 : w17.cell? ⟨w.heap.size, 0, none⟩ = some (.int .i64 sn) := (unhide K).2.1.c 0 (by simp)
  have mPd1 : w17.cell? ⟨w.heap.size, 1, none⟩ = some (.slice da1 dl1 dc1) := (unhide K).2.1.c 1 (by simp)
  have mQW00 : w17.cell? ⟨X5, 0, none⟩ = some (.int .i64 sn) := (unhide K).2.2.2.1.c 0 (by simp)
  have mQW01 : w17.cell? ⟨X5, 1, none⟩ = some (.slice a3 ((drL sn zs nu).length) c4) := (unhide K).2.2.2.1.c 1 (by simp)
  have mQXx00 : w17.cell? ⟨X7, 0, none⟩ = some (.int .i64 sn) := (unhide K).2.2.2.2.1.c 0 (by simp)
  have mQXx01 : w17.cell? ⟨X7, 1, none⟩ = some (.slice (some ⟨g6, 0, none⟩) dl1 dl1) := (unhide K).2.2.2.2.1.c 1 (by simp)
  have mQG00 : w17.cell? ⟨X10, 0, none⟩ = some (.int .i64 sn) := (unhide K).2.2.2.2.2.2.1.c 0 (by simp)
  have mQG01 : w17.cell? ⟨X10, 1, none⟩ = some (.slice a8 ((drL sn zs nu).length) c9) := (unhide K).2.2.2.2.2.2.1.c 1 (by simp)
  go_wp2_with fail
  clear mPd0 mPd1 mQW00 mQW01 mQXx00 mQXx01 mQG00 mQG01
  refine (implDrop18_any _ _ _ _ _ _ _ (unhide K).2.2.2.2.2.2.2.read hd1).mono ?_
  rintro x w18 ⟨a13, c14, rfl, oH_0, b⟩
  have S23 : Hid (w17.heap.size ≤ w18.heap.size) := hide b.size
  have K : Hid (Below w.heap.size w w18 ∧ Blk w18 w.heap.size [.int .i64 sn, .slice da1 dl1 dc1] ∧ AbIs w18 w3.heap.size w4.heap.size a3 ((drL sn zs nu).length) c4 (drL sn zs nu) ∧ Blk w18 X5 [.int .i64 sn, .slice a3 ((drL sn zs nu).length) c4] ∧ Blk w18 X7 [.int .i64 sn, .slice (some ⟨g6, 0, none⟩) dl1 dl1] ∧ AbMk w18 w7.heap.size w8.heap.size a8 ((drL sn zs nu).length) c9 (drL sn zs nu) 1 ∧ Blk w18 X10 [.int .i64 sn, .slice a8 ((drL sn zs nu).length) c9] ∧ AbIs w18 w16.heap.size w17.heap.size (some ⟨g12, 0, none⟩) dl1 dl1 zs) := hide ((unhide KEPT) _ _ (unhide K) b)
  have K : Hid (Below w.heap.size w w18 ∧ Blk w18 w.heap.size [.int .i64 sn, .slice da1 dl1 dc1] ∧ AbIs w18 w3.heap.size w4.heap.size a3 ((drL sn zs nu).length) c4 (drL sn zs nu) ∧ Blk w18 X5 [.int .i64 sn, .slice a3 ((drL sn zs nu).length) c4] ∧ Blk w18 X7 [.int .i64 sn, .slice (some ⟨g6, 0, none⟩) dl1 dl1] ∧ AbMk w18 w7.heap.size w8.heap.size a8 ((drL sn zs nu).length) c9 (drL sn zs nu) 1 ∧ Blk w18 X10 [.int .i64 sn, .slice a8 ((drL sn zs nu).length) c9] ∧ AbIs w18 w16.heap.size w17.heap.size (some ⟨g12, 0, none⟩) dl1 dl1 zs ∧ AbIs w18 w17.heap.size w18.heap.size a13 ((drL sn zs nu).length) c14 (drL sn zs nu)) := hide ⟨(unhide K).1, (unhide K).2.1, (unhide K).2.2.1, (unhide K).2.2.2.1, (unhide K).2.2.2.2.1, (unhide K).2.2.2.2.2.1, (unhide K).2.2.2.2.2.2.1, (unhide K).2.2.2.2.2.2.2, oH_0.is⟩
  clear KEPT
  have KEPT : Hid (∀ W u3, (Below w.heap.size w W ∧ Blk W w.heap.size [.int .i64 sn, .slice da1 dl1 dc1] ∧ AbIs W w3.heap.size w4.heap.size a3 ((drL sn zs nu).length) c4 (drL sn zs nu) ∧ Blk W X5 [.int .i64 sn, .slice a3 ((drL sn zs nu).length) c4] ∧ Blk W X7 [.int .i64 sn, .slice (some ⟨g6, 0, none⟩) dl1 dl1] ∧ AbMk W w7.heap.size w8.heap.size a8 ((drL sn zs nu).length) c9 (drL sn zs nu) 1 ∧ Blk W X10 [.int .i64 sn, .slice a8 ((drL sn zs nu).length) c9] ∧ AbIs W w16.heap.size w17.heap.size (some ⟨g12, 0, none⟩) dl1 dl1 zs ∧ AbIs W w17.heap.size w18.heap.size a13 ((drL sn zs nu).length) c14 (drL sn zs nu)) → Below W.heap.size W u3 → (Below w.heap.size w u3 ∧ Blk u3 w.heap.size [.int .i64 sn, .slice da1 dl1 dc1] ∧ AbIs u3 w3.heap.size w4.heap.size a3 ((drL sn zs nu).length) c4 (drL sn zs nu) ∧ Blk u3 X5 [.int .i64 sn, .slice a3 ((drL sn zs nu).length) c4] ∧ Blk u3 X7 [.int .i64 sn, .slice (some ⟨g6, 0, none⟩) dl1 dl1] ∧ AbMk u3 w7.heap.size w8.heap.size a8 ((drL sn zs nu).length) c9 (drL sn zs nu) 1 ∧ Blk u3 X10 [.int .i64 sn, .slice a8 ((drL sn zs nu).length) c9] ∧ AbIs u3 w16.heap.size w17.heap.size (some ⟨g12, 0, none⟩) dl1 dl1 zs ∧ AbIs u3 w17.heap.size w18.heap.size a13 ((drL sn zs nu).length) c14 (drL sn zs nu))) := hide (fun W u3 h b => ⟨h.1.trans (b.mono h.1.size), h.2.1.below b, h.2.2.1.below b, h.2.2.2.1.below b, h.2.2.2.2.1.below b, h.2.2.2.2.2.1.below b, h.2.2.2.2.2.2.1.below b, h.2.2.2.2.2.2.2.1.below b, h.2.2.2.2.2.2.2.2.below b⟩)
  clear oH_0
  clear b
  have K : Hid (Below w.heap.size w w18 ∧ Blk w18 w.heap.size [.int .i64 sn, .slice da1 dl1 dc1] ∧ AbIs w18 w3.heap.size w4.heap.size a3 ((drL sn zs nu).length) c4 (drL sn zs nu) ∧ Blk w18 X5 [.int .i64 sn, .slice a3 ((drL sn zs nu).length) c4] ∧ Blk w18 X7 [.int .i64 sn, .slice (some ⟨g6, 0, none⟩) dl1 dl1] ∧ AbMk w18 w7.heap.size w8.heap.size a8 ((drL sn zs nu).length) c9 (drL sn zs nu) 1 ∧ Blk w18 X10 [.int .i64 sn, .slice a8 ((drL sn zs nu).length) c9] ∧ AbIs w18 w17.heap.size w18.heap.size a13 ((drL sn zs nu).length) c14 (drL sn zs nu)) := hide ⟨(unhide K).1, (unhide K).2.1, (unhide K).2.2.1, (unhide K).2.2.2.1, (unhide K).2.2.2.2.1, (unhide K).2.2.2.2.2.1, (unhide K).2.2.2.2.2.2.1, (unhide K).2.2.2.2.2.2.2.2⟩
  clear KEPT
  have KEPT : Hid (∀ W u3, (Below w.heap.size w W ∧ Blk W w.heap.size [.int .i64 sn, .slice da1 dl1 dc1] ∧ AbIs W w3.heap.size w4.heap.size a3 ((drL sn zs nu).length) c4 (drL sn zs nu) ∧ Blk W X5 [.int .i64 sn, .slice a3 ((drL sn zs nu).length) c4] ∧ Blk W X7 [.int .i64 sn, .slice (some ⟨g6, 0, none⟩) dl1 dl1] ∧ AbMk W w7.heap.size w8.heap.size a8 ((drL sn zs nu).length) c9 (drL sn zs nu) 1 ∧ Blk W X10 [.int .i64 sn, .slice a8 ((drL sn zs nu).length) c9] ∧ AbIs W w17.heap.size w18.heap.size a13 ((drL sn zs nu).length) c14 (drL sn zs nu)) → Below W.heap.size W u3 → (Below w.heap.size w u3 ∧ Blk u3 w.heap.size [.int .i64 sn, .slice da1 dl1 dc1] ∧ AbIs u3 w3.heap.size w4.heap.size a3 ((drL sn zs nu).length) c4 (drL sn zs nu) ∧ Blk u3 X5 [.int .i64 sn, .slice a3 ((drL sn zs nu).length) c4] ∧ Blk u3 X7 [.int .i64 sn, .slice (some ⟨g6, 0, none⟩) dl1 dl1] ∧ AbMk u3 w7.heap.size w8.heap.size a8 ((drL sn zs nu).length) c9 (drL sn zs nu) 1 ∧ Blk u3 X10 [.int .i64 sn, .slice a8 ((drL sn zs nu).length) c9] ∧ AbIs u3 w17.heap.size w18.heap.size a13 ((drL sn zs nu).length) c14 (drL sn zs nu))) := hide (fun W u3 h b => ⟨h.1.trans (b.mono h.1.size), h.2.1.below b, h.2.2.1.below b, h.2.2.2.1.below b, h.2.2.2.2.1.below b, h.2.2.2.2.2.1.below b, h.2.2.2.2.2.2.1.below b, h.2.2.2.2.2.2.2.below b⟩)
  obtain ⟨w19, hw19⟩ : ∃ V, V = w18.alloc (Obj.cells #[.int .i64 sn, .slice a13 ((drL sn zs nu).length) c14] 57) := ⟨_, rfl⟩
  have b : Below w18.heap.size w18 w19 := by rw [hw19]; exact bel1 _
  have kx : Blk w19 w18.heap.size [.int .i64 sn, .slice a13 ((drL sn zs nu).length) c14] := by rw [hw19]; exact Blk.new _ _
  have S24 : Hid (w18.heap.size + 1 ≤ w19.heap.size) := hide (by rw [hw19]; simp)
  have S25 : Hid (w18.heap.size ≤ w19.heap.size) := hide b.size
  have K : Hid (Below w.heap.size w w19 ∧ Blk w19 w.heap.size [.int .i64 sn, .slice da1 dl1 dc1] ∧ AbIs w19 w3.heap.size w4.heap.size a3 ((drL sn zs nu).length) c4 (drL sn zs nu) ∧ Blk w19 X5 [.int .i64 sn, .slice a3 ((drL sn zs nu).length) c4] ∧ Blk w19 X7 [.int .i64 sn, .slice (some ⟨g6, 0, none⟩) dl1 dl1] ∧ AbMk w19 w7.heap.size w8.heap.size a8 ((drL sn zs nu).length) c9 (drL sn zs nu) 1 ∧ Blk w19 X10 [.int .i64 sn, .slice a8 ((drL sn zs nu).length) c9] ∧ AbIs w19 w17.heap.size w18.heap.size a13 ((drL sn zs nu).length) c14 (drL sn zs nu)) := hide ((unhide KEPT) _ _ (unhide K) b)
  have mPd0 : w19.cell? ⟨w.heap.size, 0, none⟩ = some (.int .i64 sn) := (unhide K).2.1.c 0 (by simp)
  have mPd1 : w19.cell? ⟨w.heap.size, 1, none⟩ = some (.slice da1 dl1 dc1) := (unhide K).2.1.c 1 (by simp)
  have mQW00 : w19.cell? ⟨X5, 0, none⟩ = some (.int .i64 sn) := (unhide K).2.2.2.1.c 0 (by simp)
  have mQW01 : w19.cell? ⟨X5, 1, none⟩ = some (.slice a3 ((drL sn zs nu).length) c4) := (unhide K).2.2.2.1.c 1 (by simp)
  have mQXx00 : w19.cell? ⟨X7, 0, none⟩ = some (.int .i64 sn) := (unhide K).2.2.2.2.1.c 0 (by simp)
  have mQXx01 : w19.cell? ⟨X7, 1, none⟩ = some (.slice (some ⟨g6, 0, none⟩) dl1 dl1) := (unhide K).2.2.2.2.1.c 1 (by simp)
  have mQG00 : w19.cell? ⟨X10, 0, none⟩ = some (.int .i64 sn) := (unhide K).2.2.2.2.2.2.1.c 0 (by simp)
  have mQG01 : w19.cell? ⟨X10, 1, none⟩ = some (.slice a8 ((drL sn zs nu).length) c9) := (unhide K).2.2.2.2.2.2.1.c 1 (by simp)
  rw [hw19] at mPd0 mPd1 mQW00 mQW01 mQXx00 mQXx01 mQG00 mQG01
  obtain ⟨X15, hX15⟩ : ∃ X, w18.heap.size = X := ⟨_, rfl⟩
  rw [hX15] at kx
  have S26 : Hid (w18.heap.size = X15) := hide hX15
  have K : Hid (Below w.heap.size w w19 ∧ Blk w19 w.heap.size [.int .i64 sn, .slice da1 dl1 dc1] ∧ AbIs w19 w3.heap.size w4.heap.size a3 ((drL sn zs nu).length) c4 (drL sn zs nu) ∧ Blk w19 X5 [.int .i64 sn, .slice a3 ((drL sn zs nu).length) c4] ∧ Blk w19 X7 [.int .i64 sn, .slice (some ⟨g6, 0, none⟩) dl1 dl1] ∧ AbMk w19 w7.heap.size w8.heap.size a8 ((drL sn zs nu).length) c9 (drL sn zs nu) 1 ∧ Blk w19 X10 [.int .i64 sn, .slice a8 ((drL sn zs nu).length) c9] ∧ AbIs w19 w17.heap.size w18.heap.size a13 ((drL sn zs nu).length) c14 (drL sn zs nu) ∧ Blk w19 X15 [.int .i64 sn, .slice a13 ((drL sn zs nu).length) c14]) := hide ⟨(unhide K).1, (unhide K).2.1, (unhide K).2.2.1, (unhide K).2.2.2.1, (unhide K).2.2.2.2.1, (unhide K).2.2.2.2.2.1, (unhide K).2.2.2.2.2.2.1, (unhide K).2.2.2.2.2.2.2, kx⟩
  clear KEPT b kx
  have KEPT : Hid (∀ W u3, (Below w.heap.size w W ∧ Blk W w.heap.size [.int .i64 sn, .slice da1 dl1 dc1] ∧ AbIs W w3.heap.size w4.heap.size a3 ((drL sn zs nu).length) c4 (drL sn zs nu) ∧ Blk W X5 [.int .i64 sn, .slice a3 ((drL sn zs nu).length) c4] ∧ Blk W X7 [.int .i64 sn, .slice (some ⟨g6, 0, none⟩) dl1 dl1] ∧ AbMk W w7.heap.size w8.heap.size a8 ((drL sn zs nu).length) c9 (drL sn zs nu) 1 ∧ Blk W X10 [.int .i64 sn, .slice a8 ((drL sn zs nu).length) c9] ∧ AbIs W w17.heap.size w18.heap.size a13 ((drL sn zs nu).length) c14 (drL sn zs nu) ∧ Blk W X15 [.int .i64 sn, .slice a13 ((drL sn zs nu).length) c14]) → Below W.heap.size W u3 → (Below w.heap.size w u3 ∧ Blk u3 w.heap.size [.int .i64 sn, .slice da1 dl1 dc1] ∧ AbIs u3 w3.heap.size w4.heap.size a3 ((drL sn zs nu).length) c4 (drL sn zs nu) ∧ Blk u3 X5 [.int .i64 sn, .slice a3 ((drL sn zs nu).length) c4] ∧ Blk u3 X7 [.int .i64 sn, .slice (some ⟨g6, 0, none⟩) dl1 dl1] ∧ AbMk u3 w7.heap.size w8.heap.size a8 ((drL sn zs nu).length) c9 (drL sn zs nu) 1 ∧ Blk u3 X10 [.int .i64 sn, .slice a8 ((drL sn zs nu).length) c9] ∧ AbIs u3 w17.heap.size w18.heap.size a13 ((drL sn zs nu).length) c14 (drL sn zs nu) ∧ Blk u3 X15 [.int .i64 sn, .slice a13 ((drL sn zs nu).length) c14])) := hide (fun W u3 h b => ⟨h.1.trans (b.mono h.1.size), h.2.1.below b, h.2.2.1.below b, h.2.2.2.1.below b, h.2.2.2.2.1.below b, h.2.2.2.2.2.1.below b, h.2.2.2.2.2.2.1.below b, h.2.2.2.2.2.2.2.1.below b, h.2.2.2.2.2.2.2.2.below b⟩)
  have Hw19 := hide hw19
  have HX15 := hide hX15
  clear hw19 hX15
  go_wp2_with fail
  try rw [← unhide Hw19]
  try rw [unhide HX15]
  clear Hw19 HX15 mPd0 mPd1 mQW00 mQW01 mQXx00 mQXx01 mQG00 mQG01
  refine (eqAboard_same _ _ _ _ _ _ _ _ (unhide K).2.2.2.2.2.2.2.1.read (unhide K).2.2.1.read).mono ?_
  rintro x w20 ⟨rfl, b⟩
  have S27 : Hid (w19.heap.size ≤ w20.heap.size) := hide b.size
  have K : Hid (Below w.heap.size w w20 ∧ Blk w20 w.heap.size [.int .i64 sn, .slice da1 dl1 dc1] ∧ AbIs w20 w3.heap.size w4.heap.size a3 ((drL sn zs nu).length) c4 (drL sn zs nu) ∧ Blk w20 X5 [.int .i64 sn, .slice a3 ((drL sn zs nu).length) c4] ∧ Blk w20 X7 [.int .i64 sn, .slice (some ⟨g6, 0, none⟩) dl1 dl1] ∧ AbMk w20 w7.heap.size w8.heap.size a8 ((drL sn zs nu).length) c9 (drL sn zs nu) 1 ∧ Blk w20 X10 [.int .i64 sn, .slice a8 ((drL sn zs nu).length) c9] ∧ AbIs w20 w17.heap.size w18.heap.size a13 ((drL sn zs nu).length) c14 (drL sn zs nu) ∧ Blk w20 X15 [.int .i64 sn, .slice a13 ((drL sn zs nu).length) c14]) := hide ((unhide KEPT) _ _ (unhide K) b)
  clear b
  have mPd0 : w20.cell? ⟨w.heap.size, 0, none⟩ = some (.int .i64 sn) := (unhide K).2.1.c 0 (by simp)
  have mPd1 : w20.cell? ⟨w.heap.size, 1, none⟩ = some (.slice da1 dl1 dc1) := (unhide K).2.1.c 1 (by simp)
  have mQW00 : w20.cell? ⟨X5, 0, none⟩ = some (.int .i64 sn) := (unhide K).2.2.2.1.c 0 (by simp)
  have mQW01 : w20.cell? ⟨X5, 1, none⟩ = some (.slice a3 ((drL sn zs nu).length) c4) := (unhide K).2.2.2.1.c 1 (by simp)
  have mQXx00 : w20.cell? ⟨X7, 0, none⟩ = some (.int .i64 sn) := (unhide K).2.2.2.2.1.c 0 (by simp)
  have mQXx01 : w20.cell? ⟨X7, 1, none⟩ = some (.slice (some ⟨g6, 0, none⟩) dl1 dl1) := (unhide K).2.2.2.2.1.c 1 (by simp)
  have mQG00 : w20.cell? ⟨X10, 0, none⟩ = some (.int .i64 sn) := (unhide K).2.2.2.2.2.2.1.c 0 (by simp)
  have mQG01 : w20.cell? ⟨X10, 1, none⟩ = some (.slice a8 ((drL sn zs nu).length) c9) := (unhide K).2.2.2.2.2.2.1.c 1 (by simp)
  have mQH00 : w20.cell? ⟨X15, 0, none⟩ = some (.int .i64 sn) := (unhide K).2.2.2.2.2.2.2.2.c 0 (by simp)
  have mQH01 : w20.cell? ⟨X15, 1, none⟩ = some (.slice a13 ((drL sn zs nu).length) c14) := (unhide K).2.2.2.2.2.2.2.2.c 1 (by simp)
  go_wp2_with fail
  clear mPd0 mPd1 mQW00 mQW01 mQXx00 mQXx01 mQG00 mQG01 mQH00 mQH01
  refine (heldAboard_any _ _ _ _ _ 1 _ _ _ (unhide K).2.2.2.2.2.1 ((drL_lz hd1 : LzB (drL sn zs nu))) (by omega) (by omega)).mono ?_
  rintro x w21 ⟨rfl, b⟩
  have kb21 := kZ_bd ((drL_lz hd1 : LzB (drL sn zs nu))) 1
  have S28 : Hid (w20.heap.size ≤ w21.heap.size) := hide b.size
  have K : Hid (Below w.heap.size w w21 ∧ Blk w21 w.heap.size [.int .i64 sn, .slice da1 dl1 dc1] ∧ AbIs w21 w3.heap.size w4.heap.size a3 ((drL sn zs nu).length) c4 (drL sn zs nu) ∧ Blk w21 X5 [.int .i64 sn, .slice a3 ((drL sn zs nu).length) c4] ∧ Blk w21 X7 [.int .i64 sn, .slice (some ⟨g6, 0, none⟩) dl1 dl1] ∧ AbMk w21 w7.heap.size w8.heap.size a8 ((drL sn zs nu).length) c9 (drL sn zs nu) 1 ∧ Blk w21 X10 [.int .i64 sn, .slice a8 ((drL sn zs nu).length) c9] ∧ AbIs w21 w17.heap.size w18.heap.size a13 ((drL sn zs nu).length) c14 (drL sn zs nu) ∧ Blk w21 X15 [.int .i64 sn, .slice a13 ((drL sn zs nu).length) c14]) := hide ((unhide KEPT) _ _ (unhide K) b)
  clear b
  have nq21 : ¬ (kZ (drL sn zs nu) 1 < 0) := by omega
  have nn21 : (kZ (drL sn zs nu) 1 != kZ (drL sn zs nu) 1) = false := by simp
  have mPd0 : w21.cell? ⟨w.heap.size, 0, none⟩ = some (.int .i64 sn) := (unhide K).2.1.c 0 (by simp)
  have mPd1 : w21.cell? ⟨w.heap.size, 1, none⟩ = some (.slice da1 dl1 dc1) := (unhide K).2.1.c 1 (by simp)
  have mQW00 : w21.cell? ⟨X5, 0, none⟩ = some (.int .i64 sn) := (unhide K).2.2.2.1.c 0 (by simp)
  have mQW01 : w21.cell? ⟨X5, 1, none⟩ = some (.slice a3 ((drL sn zs nu).length) c4) := (unhide K).2.2.2.1.c 1 (by simp)
  have mQXx00 : w21.cell? ⟨X7, 0, none⟩ = some (.int .i64 sn) := (unhide K).2.2.2.2.1.c 0 (by simp)
  have mQXx01 : w21.cell? ⟨X7, 1, none⟩ = some (.slice (some ⟨g6, 0, none⟩) dl1 dl1) := (unhide K).2.2.2.2.1.c 1 (by simp)
  have mQG00 : w21.cell? ⟨X10, 0, none⟩ = some (.int .i64 sn) := (unhide K).2.2.2.2.2.2.1.c 0 (by simp)
  have mQG01 : w21.cell? ⟨X10, 1, none⟩ = some (.slice a8 ((drL sn zs nu).length) c9) := (unhide K).2.2.2.2.2.2.1.c 1 (by simp)
  have mQH00 : w21.cell? ⟨X15, 0, none⟩ = some (.int .i64 sn) := (unhide K).2.2.2.2.2.2.2.2.c 0 (by simp)
  have mQH01 : w21.cell? ⟨X15, 1, none⟩ = some (.slice a13 ((drL sn zs nu).length) c14) := (unhide K).2.2.2.2.2.2.2.2.c 1 (by simp)
  go_wp2_with fail
  clear mPd0 mPd1 mQW00 mQW01 mQXx00 mQXx01 mQG00 mQG01 mQH00 mQH01
  go_ret
  exact ⟨rfl, (unhide K).1⟩
end Go.Proofs.Ytlpomplldgmkmba
