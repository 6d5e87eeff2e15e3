/-
  The law FnExactFlyRoute returns true at every argument and writes nothing that was there: the walk. No condition.
-/
import Derived.Test.YtkpmoolggpojdauDoorToCf
import Derived.Test.YtkpmoolggpojdauDoorRowLg
import Derived.Test.YtkpmoolggpojdauDoorMarkLg
import Derived.Test.YtkpmoolggpojdauDoorRtAny
import Derived.Test.YtkpmoolggpojdauDoorOnly
import Derived.Test.YtkpmoolggpojdauDoorMarkI
import Derived.Test.YtkpmoolggpojdauDoorBlks
import Derived.Deep.RegionHeld3
namespace Go.Proofs.YtkpmoolggpojdauDoor
open Go.RowKit
set_option maxRecDepth 20000 in
set_option maxHeartbeats 8000000 in
theorem lawFlyRoute (cx cy cd ch cc : Int) (la1 : Option Addr) (ll1 lc1 : Nat) (ls : List Lg) (w : World) (hrl : RowE 4 lgC w la1 ll1 ls) (gst : StG w) :
    Calls Tryd.prog 4 #[.agg #[.int .i64 cx, .int .i64 cy, .int .i64 cd, .int .i64 ch, .int .i64 cc], .slice la1 ll1 lc1] w fun x w' => x = .returned (.bool true) ∧ Below w.heap.size w w' := by
  have Rl := hide hrl
  have sml1 := hrl.small
  have El1 := hide hrl.len_eq
  clear hrl
  have glt := gst.lt
  have HGS := hide gst
  clear gst
  have hq : (rtO cx cy cd ch cc ls != rtO cx cy cd ch cc ls) = false := by simp
  have hsm := rtL_small cx cy cd ch cc ls
  go_enter Tryd.func4, Tryd.ntmps4
  go_wp2_with fail
  obtain ⟨w1, hw1⟩ : ∃ W, W = (w.alloc (Obj.cells #[.int .i64 cx, .int .i64 cy, .int .i64 cd, .int .i64 ch, .int .i64 cc] 23)) := ⟨_, rfl⟩
  rw [← hw1]
  have K : Hid (Below w.heap.size w w1 ∧ Blk w1 w.heap.size [.int .i64 cx, .int .i64 cy, .int .i64 cd, .int .i64 ch, .int .i64 cc]) := hide ⟨(by rw [hw1]; exact bel1 _), (by rw [hw1]; exact Blk.new _ _)⟩
  have S0 : Hid (w.heap.size + 1 ≤ w1.heap.size) := hide (by rw [hw1]; simp; try omega)
  clear hw1
  have KEPT : Hid (∀ W u3, (Below w.heap.size w W ∧ Blk W w.heap.size [.int .i64 cx, .int .i64 cy, .int .i64 cd, .int .i64 ch, .int .i64 cc]) → Below W.heap.size W u3 → (Below w.heap.size w u3 ∧ Blk u3 w.heap.size [.int .i64 cx, .int .i64 cy, .int .i64 cd, .int .i64 ch, .int .i64 cc])) := hide (fun W u3 h b => ⟨h.1.trans (b.mono h.1.size), h.2.below b⟩)
  refine (szLegS_any _ _ _ 1048576 _ sml1 (by omega) (by omega)).mono ?_
  rintro x w2 ⟨⟨r1, rfl, hl⟩, b⟩
  have S1 : Hid (w1.heap.size ≤ w2.heap.size) := hide b.size
  have K : Hid (Below w.heap.size w w2 ∧ Blk w2 w.heap.size [.int .i64 cx, .int .i64 cy, .int .i64 cd, .int .i64 ch, .int .i64 cc]) := hide ((unhide KEPT) _ _ (unhide K) b)
  clear b
  rcases hl with hl | ⟨hl, hle, hl1⟩
  · go_wp2_with fail
    go_ret
    exact ⟨rfl, (unhide K).1⟩
  have nr1 : ¬ r1 < 0 := by omega
  have mPp0 : w2.cell? ⟨w.heap.size, 0, none⟩ = some (.int .i64 cx) := (unhide K).2.c 0 (by simp)
  have mPp1 : w2.cell? ⟨w.heap.size, 1, none⟩ = some (.int .i64 cy) := (unhide K).2.c 1 (by simp)
  have mPp2 : w2.cell? ⟨w.heap.size, 2, none⟩ = some (.int .i64 cd) := (unhide K).2.c 2 (by simp)
  have mPp3 : w2.cell? ⟨w.heap.size, 3, none⟩ = some (.int .i64 ch) := (unhide K).2.c 3 (by simp)
  have mPp4 : w2.cell? ⟨w.heap.size, 4, none⟩ = some (.int .i64 cc) := (unhide K).2.c 4 (by simp)
  go_wp2_with fail
  clear mPp0 mPp1 mPp2 mPp3 mPp4
  refine (toCraft_any _ _ _ _ _ _).mono ?_
  rintro x w3 ⟨rfl, b⟩
  have S2 : Hid (w2.heap.size ≤ w3.heap.size) := hide b.size
  have K : Hid (Below w.heap.size w w3 ∧ Blk w3 w.heap.size [.int .i64 cx, .int .i64 cy, .int .i64 cd, .int .i64 ch, .int .i64 cc]) := hide ((unhide KEPT) _ _ (unhide K) b)
  clear b
  have mPp0 : w3.cell? ⟨w.heap.size, 0, none⟩ = some (.int .i64 cx) := (unhide K).2.c 0 (by simp)
  have mPp1 : w3.cell? ⟨w.heap.size, 1, none⟩ = some (.int .i64 cy) := (unhide K).2.c 1 (by simp)
  have mPp2 : w3.cell? ⟨w.heap.size, 2, none⟩ = some (.int .i64 cd) := (unhide K).2.c 2 (by simp)
  have mPp3 : w3.cell? ⟨w.heap.size, 3, none⟩ = some (.int .i64 ch) := (unhide K).2.c 3 (by simp)
  have mPp4 : w3.cell? ⟨w.heap.size, 4, none⟩ = some (.int .i64 cc) := (unhide K).2.c 4 (by simp)
  go_wp2_with fail
  clear mPp0 mPp1 mPp2 mPp3 mPp4
  obtain ⟨g2, hg2⟩ : ∃ G, w3.heap.size = G := ⟨_, rfl⟩
  refine (toLegS_own _ _ _ _ _ ((unhide Rl).below (unhide K).1) hl1).mono ?_
  rintro x w4 ⟨rfl, oc, b⟩
  rw [hg2] at oc ⊢
  have Bg2 := hide hg2
  clear hg2
  have LT4 : Hid (∀ g, (Value.slice (some ⟨g2, 0, none⟩) ll1 ll1).ownBlock = some g → w3.heap.size ≤ g ∧ g < w4.heap.size) := hide (by have e := unhide Bg2; have l := oc.lies; rw [← e] at l ⊢; exact l)
  have S3 : Hid (w3.heap.size ≤ w4.heap.size) := hide b.size
  have K : Hid (Below w.heap.size w w4 ∧ Blk w4 w.heap.size [.int .i64 cx, .int .i64 cy, .int .i64 cd, .int .i64 ch, .int .i64 cc]) := hide ((unhide KEPT) _ _ (unhide K) b)
  have K : Hid (Below w.heap.size w w4 ∧ Blk w4 w.heap.size [.int .i64 cx, .int .i64 cy, .int .i64 cd, .int .i64 ch, .int .i64 cc] ∧ OwnE 4 lgC w4 w3.heap.size 30 (.slice (some ⟨g2, 0, none⟩) ll1 ll1) ls) := hide ⟨(unhide K).1, (unhide K).2, (by have e := unhide Bg2; rw [e]; exact oc)⟩
  clear KEPT oc b
  have KEPT : Hid (∀ W u3, (Below w.heap.size w W ∧ Blk W w.heap.size [.int .i64 cx, .int .i64 cy, .int .i64 cd, .int .i64 ch, .int .i64 cc] ∧ OwnE 4 lgC W w3.heap.size 30 (.slice (some ⟨g2, 0, none⟩) ll1 ll1) ls) → Below W.heap.size W u3 → (Below w.heap.size w u3 ∧ Blk u3 w.heap.size [.int .i64 cx, .int .i64 cy, .int .i64 cd, .int .i64 ch, .int .i64 cc] ∧ OwnE 4 lgC u3 w3.heap.size 30 (.slice (some ⟨g2, 0, none⟩) ll1 ll1) ls)) := hide (fun W u3 h b => ⟨h.1.trans (b.mono h.1.size), h.2.1.below b, h.2.2.below b⟩)
  have mPp0 : w4.cell? ⟨w.heap.size, 0, none⟩ = some (.int .i64 cx) := (unhide K).2.1.c 0 (by simp)
  have mPp1 : w4.cell? ⟨w.heap.size, 1, none⟩ = some (.int .i64 cy) := (unhide K).2.1.c 1 (by simp)
  have mPp2 : w4.cell? ⟨w.heap.size, 2, none⟩ = some (.int .i64 cd) := (unhide K).2.1.c 2 (by simp)
  have mPp3 : w4.cell? ⟨w.heap.size, 3, none⟩ = some (.int .i64 ch) := (unhide K).2.1.c 3 (by simp)
  have mPp4 : w4.cell? ⟨w.heap.size, 4, none⟩ = some (.int .i64 cc) := (unhide K).2.1.c 4 (by simp)
  go_wp2_with fail
  clear mPp0 mPp1 mPp2 mPp3 mPp4
  refine (specFlyRoute_any _ _ _ _ _ _ _ _ _ _ (unhide K).2.2.row ).mono ?_
  rintro x w5 ⟨a3, c4, rfl, oW_1, b⟩
  have LW1 : Hid (∀ g, (Value.slice a3 ((rtL cx cy cd ch cc ls).length) c4).ownBlock = some g → w4.heap.size ≤ g ∧ g < w5.heap.size) := hide oW_1.lies
  have S4 : Hid (w4.heap.size ≤ w5.heap.size) := hide b.size
  have K : Hid (Below w.heap.size w w5 ∧ Blk w5 w.heap.size [.int .i64 cx, .int .i64 cy, .int .i64 cd, .int .i64 ch, .int .i64 cc] ∧ OwnE 4 lgC w5 w3.heap.size 30 (.slice (some ⟨g2, 0, none⟩) ll1 ll1) ls) := hide ((unhide KEPT) _ _ (unhide K) b)
  have K : Hid (Below w.heap.size w w5 ∧ Blk w5 w.heap.size [.int .i64 cx, .int .i64 cy, .int .i64 cd, .int .i64 ch, .int .i64 cc] ∧ OwnE 4 lgC w5 w3.heap.size 30 (.slice (some ⟨g2, 0, none⟩) ll1 ll1) ls ∧ OwnI w5 w4.heap.size (.slice a3 ((rtL cx cy cd ch cc ls).length) c4) (rtL cx cy cd ch cc ls)) := hide ⟨(unhide K).1, (unhide K).2.1, (unhide K).2.2, oW_1⟩
  clear KEPT
  have KEPT : Hid (∀ W u3, (Below w.heap.size w W ∧ Blk W w.heap.size [.int .i64 cx, .int .i64 cy, .int .i64 cd, .int .i64 ch, .int .i64 cc] ∧ OwnE 4 lgC W w3.heap.size 30 (.slice (some ⟨g2, 0, none⟩) ll1 ll1) ls ∧ OwnI W w4.heap.size (.slice a3 ((rtL cx cy cd ch cc ls).length) c4) (rtL cx cy cd ch cc ls)) → Below W.heap.size W u3 → (Below w.heap.size w u3 ∧ Blk u3 w.heap.size [.int .i64 cx, .int .i64 cy, .int .i64 cd, .int .i64 ch, .int .i64 cc] ∧ OwnE 4 lgC u3 w3.heap.size 30 (.slice (some ⟨g2, 0, none⟩) ll1 ll1) ls ∧ OwnI u3 w4.heap.size (.slice a3 ((rtL cx cy cd ch cc ls).length) c4) (rtL cx cy cd ch cc ls))) := hide (fun W u3 h b => ⟨h.1.trans (b.mono h.1.size), h.2.1.below b, h.2.2.1.below b, h.2.2.2.below b⟩)
  clear oW_1
  clear b
  have K : Hid (Below w.heap.size w w5 ∧ Blk w5 w.heap.size [.int .i64 cx, .int .i64 cy, .int .i64 cd, .int .i64 ch, .int .i64 cc] ∧ OwnI w5 w4.heap.size (.slice a3 ((rtL cx cy cd ch cc ls).length) c4) (rtL cx cy cd ch cc ls)) := hide ⟨(unhide K).1, (unhide K).2.1, (unhide K).2.2.2⟩
  clear KEPT
  have KEPT : Hid (∀ W u3, (Below w.heap.size w W ∧ Blk W w.heap.size [.int .i64 cx, .int .i64 cy, .int .i64 cd, .int .i64 ch, .int .i64 cc] ∧ OwnI W w4.heap.size (.slice a3 ((rtL cx cy cd ch cc ls).length) c4) (rtL cx cy cd ch cc ls)) → Below W.heap.size W u3 → (Below w.heap.size w u3 ∧ Blk u3 w.heap.size [.int .i64 cx, .int .i64 cy, .int .i64 cd, .int .i64 ch, .int .i64 cc] ∧ OwnI u3 w4.heap.size (.slice a3 ((rtL cx cy cd ch cc ls).length) c4) (rtL cx cy cd ch cc ls))) := hide (fun W u3 h b => ⟨h.1.trans (b.mono h.1.size), h.2.1.below b, h.2.2.below b⟩)
  obtain ⟨w6, hw6⟩ : ∃ V, V = w5.alloc (Obj.cells #[.int .i64 (rtX cx cy cd ch cc ls), .int .i64 (rtY cx cy cd ch cc ls), .int .i64 (rtD cx cy cd ch cc ls), .int .i64 (rtH cx cy cd ch cc ls), .int .i64 (rtC cx cy cd ch cc ls)] 26) := ⟨_, rfl⟩
  have b : Below w5.heap.size w5 w6 := by rw [hw6]; exact bel1 _
  have kx : Blk w6 w5.heap.size [.int .i64 (rtX cx cy cd ch cc ls), .int .i64 (rtY cx cy cd ch cc ls), .int .i64 (rtD cx cy cd ch cc ls), .int .i64 (rtH cx cy cd ch cc ls), .int .i64 (rtC cx cy cd ch cc ls)] := by rw [hw6]; exact Blk.new _ _
  have S5 : Hid (w5.heap.size + 1 ≤ w6.heap.size) := hide (by rw [hw6]; simp)
  have S6 : Hid (w5.heap.size ≤ w6.heap.size) := hide b.size
  have K : Hid (Below w.heap.size w w6 ∧ Blk w6 w.heap.size [.int .i64 cx, .int .i64 cy, .int .i64 cd, .int .i64 ch, .int .i64 cc] ∧ OwnI w6 w4.heap.size (.slice a3 ((rtL cx cy cd ch cc ls).length) c4) (rtL cx cy cd ch cc ls)) := hide ((unhide KEPT) _ _ (unhide K) b)
  have mPp0 : w6.cell? ⟨w.heap.size, 0, none⟩ = some (.int .i64 cx) := (unhide K).2.1.c 0 (by simp)
  have mPp1 : w6.cell? ⟨w.heap.size, 1, none⟩ = some (.int .i64 cy) := (unhide K).2.1.c 1 (by simp)
  have mPp2 : w6.cell? ⟨w.heap.size, 2, none⟩ = some (.int .i64 cd) := (unhide K).2.1.c 2 (by simp)
  have mPp3 : w6.cell? ⟨w.heap.size, 3, none⟩ = some (.int .i64 ch) := (unhide K).2.1.c 3 (by simp)
  have mPp4 : w6.cell? ⟨w.heap.size, 4, none⟩ = some (.int .i64 cc) := (unhide K).2.1.c 4 (by simp)
  rw [hw6] at mPp0 mPp1 mPp2 mPp3 mPp4
  obtain ⟨X5, hX5⟩ : ∃ X, w5.heap.size = X := ⟨_, rfl⟩
  rw [hX5] at kx
  have S7 : Hid (w5.heap.size = X5) := hide hX5
  have K : Hid (Below w.heap.size w w6 ∧ Blk w6 w.heap.size [.int .i64 cx, .int .i64 cy, .int .i64 cd, .int .i64 ch, .int .i64 cc] ∧ OwnI w6 w4.heap.size (.slice a3 ((rtL cx cy cd ch cc ls).length) c4) (rtL cx cy cd ch cc ls) ∧ Blk w6 X5 [.int .i64 (rtX cx cy cd ch cc ls), .int .i64 (rtY cx cy cd ch cc ls), .int .i64 (rtD cx cy cd ch cc ls), .int .i64 (rtH cx cy cd ch cc ls), .int .i64 (rtC cx cy cd ch cc ls)]) := hide ⟨(unhide K).1, (unhide K).2.1, (unhide K).2.2, kx⟩
  clear KEPT b kx
  have KEPT : Hid (∀ W u3, (Below w.heap.size w W ∧ Blk W w.heap.size [.int .i64 cx, .int .i64 cy, .int .i64 cd, .int .i64 ch, .int .i64 cc] ∧ OwnI W w4.heap.size (.slice a3 ((rtL cx cy cd ch cc ls).length) c4) (rtL cx cy cd ch cc ls) ∧ Blk W X5 [.int .i64 (rtX cx cy cd ch cc ls), .int .i64 (rtY cx cy cd ch cc ls), .int .i64 (rtD cx cy cd ch cc ls), .int .i64 (rtH cx cy cd ch cc ls), .int .i64 (rtC cx cy cd ch cc ls)]) → Below W.heap.size W u3 → (Below w.heap.size w u3 ∧ Blk u3 w.heap.size [.int .i64 cx, .int .i64 cy, .int .i64 cd, .int .i64 ch, .int .i64 cc] ∧ OwnI u3 w4.heap.size (.slice a3 ((rtL cx cy cd ch cc ls).length) c4) (rtL cx cy cd ch cc ls) ∧ Blk u3 X5 [.int .i64 (rtX cx cy cd ch cc ls), .int .i64 (rtY cx cy cd ch cc ls), .int .i64 (rtD cx cy cd ch cc ls), .int .i64 (rtH cx cy cd ch cc ls), .int .i64 (rtC cx cy cd ch cc ls)])) := hide (fun W u3 h b => ⟨h.1.trans (b.mono h.1.size), h.2.1.below b, h.2.2.1.below b, h.2.2.2.below b⟩)
  have Hw6 := hide hw6
  have HX5 := hide hX5
  clear hw6 hX5
  go_wp2_with fail
  try rw [← unhide Hw6]
  try rw [unhide HX5]
  clear Hw6 HX5 mPp0 mPp1 mPp2 mPp3 mPp4
  obtain ⟨g6, hg6⟩ : ∃ G, w6.heap.size = G := ⟨_, rfl⟩
  refine (toLegS_own _ _ _ _ _ ((unhide Rl).below (unhide K).1) hl1).mono ?_
  rintro x w7 ⟨rfl, oc, b⟩
  rw [hg6] at oc ⊢
  have Bg6 := hide hg6
  clear hg6
  have LXx1 : Hid (∀ g, (Value.slice (some ⟨g6, 0, none⟩) ll1 ll1).ownBlock = some g → w6.heap.size ≤ g ∧ g < w7.heap.size) := hide (by have e := unhide Bg6; have l := oc.lies; rw [← e] at l ⊢; exact l)
  have S8 : Hid (w6.heap.size ≤ w7.heap.size) := hide b.size
  have K : Hid (Below w.heap.size w w7 ∧ Blk w7 w.heap.size [.int .i64 cx, .int .i64 cy, .int .i64 cd, .int .i64 ch, .int .i64 cc] ∧ OwnI w7 w4.heap.size (.slice a3 ((rtL cx cy cd ch cc ls).length) c4) (rtL cx cy cd ch cc ls) ∧ Blk w7 X5 [.int .i64 (rtX cx cy cd ch cc ls), .int .i64 (rtY cx cy cd ch cc ls), .int .i64 (rtD cx cy cd ch cc ls), .int .i64 (rtH cx cy cd ch cc ls), .int .i64 (rtC cx cy cd ch cc ls)]) := hide ((unhide KEPT) _ _ (unhide K) b)
  have K : Hid (Below w.heap.size w w7 ∧ Blk w7 w.heap.size [.int .i64 cx, .int .i64 cy, .int .i64 cd, .int .i64 ch, .int .i64 cc] ∧ OwnI w7 w4.heap.size (.slice a3 ((rtL cx cy cd ch cc ls).length) c4) (rtL cx cy cd ch cc ls) ∧ Blk w7 X5 [.int .i64 (rtX cx cy cd ch cc ls), .int .i64 (rtY cx cy cd ch cc ls), .int .i64 (rtD cx cy cd ch cc ls), .int .i64 (rtH cx cy cd ch cc ls), .int .i64 (rtC cx cy cd ch cc ls)] ∧ OwnE 4 lgC w7 w6.heap.size 30 (.slice (some ⟨g6, 0, none⟩) ll1 ll1) ls) := hide ⟨(unhide K).1, (unhide K).2.1, (unhide K).2.2.1, (unhide K).2.2.2, (by have e := unhide Bg6; rw [e]; exact oc)⟩
  clear KEPT oc b
  have KEPT : Hid (∀ W u3, (Below w.heap.size w W ∧ Blk W w.heap.size [.int .i64 cx, .int .i64 cy, .int .i64 cd, .int .i64 ch, .int .i64 cc] ∧ OwnI W w4.heap.size (.slice a3 ((rtL cx cy cd ch cc ls).length) c4) (rtL cx cy cd ch cc ls) ∧ Blk W X5 [.int .i64 (rtX cx cy cd ch cc ls), .int .i64 (rtY cx cy cd ch cc ls), .int .i64 (rtD cx cy cd ch cc ls), .int .i64 (rtH cx cy cd ch cc ls), .int .i64 (rtC cx cy cd ch cc ls)] ∧ OwnE 4 lgC W w6.heap.size 30 (.slice (some ⟨g6, 0, none⟩) ll1 ll1) ls) → Below W.heap.size W u3 → (Below w.heap.size w u3 ∧ Blk u3 w.heap.size [.int .i64 cx, .int .i64 cy, .int .i64 cd, .int .i64 ch, .int .i64 cc] ∧ OwnI u3 w4.heap.size (.slice a3 ((rtL cx cy cd ch cc ls).length) c4) (rtL cx cy cd ch cc ls) ∧ Blk u3 X5 [.int .i64 (rtX cx cy cd ch cc ls), .int .i64 (rtY cx cy cd ch cc ls), .int .i64 (rtD cx cy cd ch cc ls), .int .i64 (rtH cx cy cd ch cc ls), .int .i64 (rtC cx cy cd ch cc ls)] ∧ OwnE 4 lgC u3 w6.heap.size 30 (.slice (some ⟨g6, 0, none⟩) ll1 ll1) ls)) := hide (fun W u3 h b => ⟨h.1.trans (b.mono h.1.size), h.2.1.below b, h.2.2.1.below b, h.2.2.2.1.below b, h.2.2.2.2.below b⟩)
  have mPp0 : w7.cell? ⟨w.heap.size, 0, none⟩ = some (.int .i64 cx) := (unhide K).2.1.c 0 (by simp)
  have mPp1 : w7.cell? ⟨w.heap.size, 1, none⟩ = some (.int .i64 cy) := (unhide K).2.1.c 1 (by simp)
  have mPp2 : w7.cell? ⟨w.heap.size, 2, none⟩ = some (.int .i64 cd) := (unhide K).2.1.c 2 (by simp)
  have mPp3 : w7.cell? ⟨w.heap.size, 3, none⟩ = some (.int .i64 ch) := (unhide K).2.1.c 3 (by simp)
  have mPp4 : w7.cell? ⟨w.heap.size, 4, none⟩ = some (.int .i64 cc) := (unhide K).2.1.c 4 (by simp)
  have mQWp00 : w7.cell? ⟨X5, 0, none⟩ = some (.int .i64 (rtX cx cy cd ch cc ls)) := (unhide K).2.2.2.1.c 0 (by simp)
  have mQWp01 : w7.cell? ⟨X5, 1, none⟩ = some (.int .i64 (rtY cx cy cd ch cc ls)) := (unhide K).2.2.2.1.c 1 (by simp)
  have mQWp02 : w7.cell? ⟨X5, 2, none⟩ = some (.int .i64 (rtD cx cy cd ch cc ls)) := (unhide K).2.2.2.1.c 2 (by simp)
  have mQWp03 : w7.cell? ⟨X5, 3, none⟩ = some (.int .i64 (rtH cx cy cd ch cc ls)) := (unhide K).2.2.2.1.c 3 (by simp)
  have mQWp04 : w7.cell? ⟨X5, 4, none⟩ = some (.int .i64 (rtC cx cy cd ch cc ls)) := (unhide K).2.2.2.1.c 4 (by simp)
  go_wp2_with fail
  clear mPp0 mPp1 mPp2 mPp3 mPp4 mQWp00 mQWp01 mQWp02 mQWp03 mQWp04
  refine (toCraft_any _ _ _ _ _ _).mono ?_
  rintro x w8 ⟨rfl, b⟩
  have S9 : Hid (w7.heap.size ≤ w8.heap.size) := hide b.size
  have K : Hid (Below w.heap.size w w8 ∧ Blk w8 w.heap.size [.int .i64 cx, .int .i64 cy, .int .i64 cd, .int .i64 ch, .int .i64 cc] ∧ OwnI w8 w4.heap.size (.slice a3 ((rtL cx cy cd ch cc ls).length) c4) (rtL cx cy cd ch cc ls) ∧ Blk w8 X5 [.int .i64 (rtX cx cy cd ch cc ls), .int .i64 (rtY cx cy cd ch cc ls), .int .i64 (rtD cx cy cd ch cc ls), .int .i64 (rtH cx cy cd ch cc ls), .int .i64 (rtC cx cy cd ch cc ls)] ∧ OwnE 4 lgC w8 w6.heap.size 30 (.slice (some ⟨g6, 0, none⟩) ll1 ll1) ls) := hide ((unhide KEPT) _ _ (unhide K) b)
  clear b
  have mPp0 : w8.cell? ⟨w.heap.size, 0, none⟩ = some (.int .i64 cx) := (unhide K).2.1.c 0 (by simp)
  have mPp1 : w8.cell? ⟨w.heap.size, 1, none⟩ = some (.int .i64 cy) := (unhide K).2.1.c 1 (by simp)
  have mPp2 : w8.cell? ⟨w.heap.size, 2, none⟩ = some (.int .i64 cd) := (unhide K).2.1.c 2 (by simp)
  have mPp3 : w8.cell? ⟨w.heap.size, 3, none⟩ = some (.int .i64 ch) := (unhide K).2.1.c 3 (by simp)
  have mPp4 : w8.cell? ⟨w.heap.size, 4, none⟩ = some (.int .i64 cc) := (unhide K).2.1.c 4 (by simp)
  have mQWp00 : w8.cell? ⟨X5, 0, none⟩ = some (.int .i64 (rtX cx cy cd ch cc ls)) := (unhide K).2.2.2.1.c 0 (by simp)
  have mQWp01 : w8.cell? ⟨X5, 1, none⟩ = some (.int .i64 (rtY cx cy cd ch cc ls)) := (unhide K).2.2.2.1.c 1 (by simp)
  have mQWp02 : w8.cell? ⟨X5, 2, none⟩ = some (.int .i64 (rtD cx cy cd ch cc ls)) := (unhide K).2.2.2.1.c 2 (by simp)
  have mQWp03 : w8.cell? ⟨X5, 3, none⟩ = some (.int .i64 (rtH cx cy cd ch cc ls)) := (unhide K).2.2.2.1.c 3 (by simp)
  have mQWp04 : w8.cell? ⟨X5, 4, none⟩ = some (.int .i64 (rtC cx cy cd ch cc ls)) := (unhide K).2.2.2.1.c 4 (by simp)
  go_wp2_with fail
  clear mPp0 mPp1 mPp2 mPp3 mPp4 mQWp00 mQWp01 mQWp02 mQWp03 mQWp04
  refine (implFlyRoute_any _ _ _ _ _ _ _ _ _ _ (unhide K).2.2.2.2.row ((unhide HGS).below glt (unhide K).1)).mono ?_
  rintro x w9 ⟨a7, c8, rfl, oG_1, b⟩
  have LG1 : Hid (∀ g, (Value.slice a7 ((rtL cx cy cd ch cc ls).length) c8).ownBlock = some g → w8.heap.size ≤ g ∧ g < w9.heap.size) := hide oG_1.lies
  have S10 : Hid (w8.heap.size ≤ w9.heap.size) := hide b.size
  have K : Hid (Below w.heap.size w w9 ∧ Blk w9 w.heap.size [.int .i64 cx, .int .i64 cy, .int .i64 cd, .int .i64 ch, .int .i64 cc] ∧ OwnI w9 w4.heap.size (.slice a3 ((rtL cx cy cd ch cc ls).length) c4) (rtL cx cy cd ch cc ls) ∧ Blk w9 X5 [.int .i64 (rtX cx cy cd ch cc ls), .int .i64 (rtY cx cy cd ch cc ls), .int .i64 (rtD cx cy cd ch cc ls), .int .i64 (rtH cx cy cd ch cc ls), .int .i64 (rtC cx cy cd ch cc ls)] ∧ OwnE 4 lgC w9 w6.heap.size 30 (.slice (some ⟨g6, 0, none⟩) ll1 ll1) ls) := hide ((unhide KEPT) _ _ (unhide K) b)
  have K : Hid (Below w.heap.size w w9 ∧ Blk w9 w.heap.size [.int .i64 cx, .int .i64 cy, .int .i64 cd, .int .i64 ch, .int .i64 cc] ∧ OwnI w9 w4.heap.size (.slice a3 ((rtL cx cy cd ch cc ls).length) c4) (rtL cx cy cd ch cc ls) ∧ Blk w9 X5 [.int .i64 (rtX cx cy cd ch cc ls), .int .i64 (rtY cx cy cd ch cc ls), .int .i64 (rtD cx cy cd ch cc ls), .int .i64 (rtH cx cy cd ch cc ls), .int .i64 (rtC cx cy cd ch cc ls)] ∧ OwnE 4 lgC w9 w6.heap.size 30 (.slice (some ⟨g6, 0, none⟩) ll1 ll1) ls ∧ OwnI w9 w8.heap.size (.slice a7 ((rtL cx cy cd ch cc ls).length) c8) (rtL cx cy cd ch cc ls)) := hide ⟨(unhide K).1, (unhide K).2.1, (unhide K).2.2.1, (unhide K).2.2.2.1, (unhide K).2.2.2.2, oG_1⟩
  clear KEPT
  have KEPT : Hid (∀ W u3, (Below w.heap.size w W ∧ Blk W w.heap.size [.int .i64 cx, .int .i64 cy, .int .i64 cd, .int .i64 ch, .int .i64 cc] ∧ OwnI W w4.heap.size (.slice a3 ((rtL cx cy cd ch cc ls).length) c4) (rtL cx cy cd ch cc ls) ∧ Blk W X5 [.int .i64 (rtX cx cy cd ch cc ls), .int .i64 (rtY cx cy cd ch cc ls), .int .i64 (rtD cx cy cd ch cc ls), .int .i64 (rtH cx cy cd ch cc ls), .int .i64 (rtC cx cy cd ch cc ls)] ∧ OwnE 4 lgC W w6.heap.size 30 (.slice (some ⟨g6, 0, none⟩) ll1 ll1) ls ∧ OwnI W w8.heap.size (.slice a7 ((rtL cx cy cd ch cc ls).length) c8) (rtL cx cy cd ch cc ls)) → Below W.heap.size W u3 → (Below w.heap.size w u3 ∧ Blk u3 w.heap.size [.int .i64 cx, .int .i64 cy, .int .i64 cd, .int .i64 ch, .int .i64 cc] ∧ OwnI u3 w4.heap.size (.slice a3 ((rtL cx cy cd ch cc ls).length) c4) (rtL cx cy cd ch cc ls) ∧ Blk u3 X5 [.int .i64 (rtX cx cy cd ch cc ls), .int .i64 (rtY cx cy cd ch cc ls), .int .i64 (rtD cx cy cd ch cc ls), .int .i64 (rtH cx cy cd ch cc ls), .int .i64 (rtC cx cy cd ch cc ls)] ∧ OwnE 4 lgC u3 w6.heap.size 30 (.slice (some ⟨g6, 0, none⟩) ll1 ll1) ls ∧ OwnI u3 w8.heap.size (.slice a7 ((rtL cx cy cd ch cc ls).length) c8) (rtL cx cy cd ch cc ls))) := hide (fun W u3 h b => ⟨h.1.trans (b.mono h.1.size), h.2.1.below b, h.2.2.1.below b, h.2.2.2.1.below b, h.2.2.2.2.1.below b, h.2.2.2.2.2.below b⟩)
  clear oG_1
  clear b
  obtain ⟨w10, hw10⟩ : ∃ V, V = w9.alloc (Obj.cells #[.int .i64 (rtX cx cy cd ch cc ls), .int .i64 (rtY cx cy cd ch cc ls), .int .i64 (rtD cx cy cd ch cc ls), .int .i64 (rtH cx cy cd ch cc ls), .int .i64 (rtC cx cy cd ch cc ls)] 26) := ⟨_, rfl⟩
  have b : Below w9.heap.size w9 w10 := by rw [hw10]; exact bel1 _
  have kx : Blk w10 w9.heap.size [.int .i64 (rtX cx cy cd ch cc ls), .int .i64 (rtY cx cy cd ch cc ls), .int .i64 (rtD cx cy cd ch cc ls), .int .i64 (rtH cx cy cd ch cc ls), .int .i64 (rtC cx cy cd ch cc ls)] := by rw [hw10]; exact Blk.new _ _
  have S11 : Hid (w9.heap.size + 1 ≤ w10.heap.size) := hide (by rw [hw10]; simp)
  have S12 : Hid (w9.heap.size ≤ w10.heap.size) := hide b.size
  have K : Hid (Below w.heap.size w w10 ∧ Blk w10 w.heap.size [.int .i64 cx, .int .i64 cy, .int .i64 cd, .int .i64 ch, .int .i64 cc] ∧ OwnI w10 w4.heap.size (.slice a3 ((rtL cx cy cd ch cc ls).length) c4) (rtL cx cy cd ch cc ls) ∧ Blk w10 X5 [.int .i64 (rtX cx cy cd ch cc ls), .int .i64 (rtY cx cy cd ch cc ls), .int .i64 (rtD cx cy cd ch cc ls), .int .i64 (rtH cx cy cd ch cc ls), .int .i64 (rtC cx cy cd ch cc ls)] ∧ OwnE 4 lgC w10 w6.heap.size 30 (.slice (some ⟨g6, 0, none⟩) ll1 ll1) ls ∧ OwnI w10 w8.heap.size (.slice a7 ((rtL cx cy cd ch cc ls).length) c8) (rtL cx cy cd ch cc ls)) := hide ((unhide KEPT) _ _ (unhide K) b)
  have mPp0 : w10.cell? ⟨w.heap.size, 0, none⟩ = some (.int .i64 cx) := (unhide K).2.1.c 0 (by simp)
  have mPp1 : w10.cell? ⟨w.heap.size, 1, none⟩ = some (.int .i64 cy) := (unhide K).2.1.c 1 (by simp)
  have mPp2 : w10.cell? ⟨w.heap.size, 2, none⟩ = some (.int .i64 cd) := (unhide K).2.1.c 2 (by simp)
  have mPp3 : w10.cell? ⟨w.heap.size, 3, none⟩ = some (.int .i64 ch) := (unhide K).2.1.c 3 (by simp)
  have mPp4 : w10.cell? ⟨w.heap.size, 4, none⟩ = some (.int .i64 cc) := (unhide K).2.1.c 4 (by simp)
  have mQWp00 : w10.cell? ⟨X5, 0, none⟩ = some (.int .i64 (rtX cx cy cd ch cc ls)) := (unhide K).2.2.2.1.c 0 (by simp)
  have mQWp01 : w10.cell? ⟨X5, 1, none⟩ = some (.int .i64 (rtY cx cy cd ch cc ls)) := (unhide K).2.2.2.1.c 1 (by simp)
  have mQWp02 : w10.cell? ⟨X5, 2, none⟩ = some (.int .i64 (rtD cx cy cd ch cc ls)) := (unhide K).2.2.2.1.c 2 (by simp)
  have mQWp03 : w10.cell? ⟨X5, 3, none⟩ = some (.int .i64 (rtH cx cy cd ch cc ls)) := (unhide K).2.2.2.1.c 3 (by simp)
  have mQWp04 : w10.cell? ⟨X5, 4, none⟩ = some (.int .i64 (rtC cx cy cd ch cc ls)) := (unhide K).2.2.2.1.c 4 (by simp)
  rw [hw10] at mPp0 mPp1 mPp2 mPp3 mPp4 mQWp00 mQWp01 mQWp02 mQWp03 mQWp04
  obtain ⟨X9, hX9⟩ : ∃ X, w9.heap.size = X := ⟨_, rfl⟩
  rw [hX9] at kx
  have S13 : Hid (w9.heap.size = X9) := hide hX9
  have K : Hid (Below w.heap.size w w10 ∧ Blk w10 w.heap.size [.int .i64 cx, .int .i64 cy, .int .i64 cd, .int .i64 ch, .int .i64 cc] ∧ OwnI w10 w4.heap.size (.slice a3 ((rtL cx cy cd ch cc ls).length) c4) (rtL cx cy cd ch cc ls) ∧ Blk w10 X5 [.int .i64 (rtX cx cy cd ch cc ls), .int .i64 (rtY cx cy cd ch cc ls), .int .i64 (rtD cx cy cd ch cc ls), .int .i64 (rtH cx cy cd ch cc ls), .int .i64 (rtC cx cy cd ch cc ls)] ∧ OwnE 4 lgC w10 w6.heap.size 30 (.slice (some ⟨g6, 0, none⟩) ll1 ll1) ls ∧ OwnI w10 w8.heap.size (.slice a7 ((rtL cx cy cd ch cc ls).length) c8) (rtL cx cy cd ch cc ls) ∧ Blk w10 X9 [.int .i64 (rtX cx cy cd ch cc ls), .int .i64 (rtY cx cy cd ch cc ls), .int .i64 (rtD cx cy cd ch cc ls), .int .i64 (rtH cx cy cd ch cc ls), .int .i64 (rtC cx cy cd ch cc ls)]) := hide ⟨(unhide K).1, (unhide K).2.1, (unhide K).2.2.1, (unhide K).2.2.2.1, (unhide K).2.2.2.2.1, (unhide K).2.2.2.2.2, kx⟩
  clear KEPT b kx
  have KEPT : Hid (∀ W u3, (Below w.heap.size w W ∧ Blk W w.heap.size [.int .i64 cx, .int .i64 cy, .int .i64 cd, .int .i64 ch, .int .i64 cc] ∧ OwnI W w4.heap.size (.slice a3 ((rtL cx cy cd ch cc ls).length) c4) (rtL cx cy cd ch cc ls) ∧ Blk W X5 [.int .i64 (rtX cx cy cd ch cc ls), .int .i64 (rtY cx cy cd ch cc ls), .int .i64 (rtD cx cy cd ch cc ls), .int .i64 (rtH cx cy cd ch cc ls), .int .i64 (rtC cx cy cd ch cc ls)] ∧ OwnE 4 lgC W w6.heap.size 30 (.slice (some ⟨g6, 0, none⟩) ll1 ll1) ls ∧ OwnI W w8.heap.size (.slice a7 ((rtL cx cy cd ch cc ls).length) c8) (rtL cx cy cd ch cc ls) ∧ Blk W X9 [.int .i64 (rtX cx cy cd ch cc ls), .int .i64 (rtY cx cy cd ch cc ls), .int .i64 (rtD cx cy cd ch cc ls), .int .i64 (rtH cx cy cd ch cc ls), .int .i64 (rtC cx cy cd ch cc ls)]) → Below W.heap.size W u3 → (Below w.heap.size w u3 ∧ Blk u3 w.heap.size [.int .i64 cx, .int .i64 cy, .int .i64 cd, .int .i64 ch, .int .i64 cc] ∧ OwnI u3 w4.heap.size (.slice a3 ((rtL cx cy cd ch cc ls).length) c4) (rtL cx cy cd ch cc ls) ∧ Blk u3 X5 [.int .i64 (rtX cx cy cd ch cc ls), .int .i64 (rtY cx cy cd ch cc ls), .int .i64 (rtD cx cy cd ch cc ls), .int .i64 (rtH cx cy cd ch cc ls), .int .i64 (rtC cx cy cd ch cc ls)] ∧ OwnE 4 lgC u3 w6.heap.size 30 (.slice (some ⟨g6, 0, none⟩) ll1 ll1) ls ∧ OwnI u3 w8.heap.size (.slice a7 ((rtL cx cy cd ch cc ls).length) c8) (rtL cx cy cd ch cc ls) ∧ Blk u3 X9 [.int .i64 (rtX cx cy cd ch cc ls), .int .i64 (rtY cx cy cd ch cc ls), .int .i64 (rtD cx cy cd ch cc ls), .int .i64 (rtH cx cy cd ch cc ls), .int .i64 (rtC cx cy cd ch cc ls)])) := hide (fun W u3 h b => ⟨h.1.trans (b.mono h.1.size), h.2.1.below b, h.2.2.1.below b, h.2.2.2.1.below b, h.2.2.2.2.1.below b, h.2.2.2.2.2.1.below b, h.2.2.2.2.2.2.below b⟩)
  have Hw10 := hide hw10
  have HX9 := hide hX9
  clear hw10 hX9
  go_wp2_with fail
  try rw [← unhide Hw10]
  try rw [unhide HX9]
  clear Hw10 HX9 mPp0 mPp1 mPp2 mPp3 mPp4 mQWp00 mQWp01 mQWp02 mQWp03 mQWp04
  refine (eqCraft_alike _ _ _ _ _ _ _ _ _ _ _ (cfAlike_refl _)).mono ?_
  rintro x w11 ⟨rfl, b⟩
  have S14 : Hid (w10.heap.size ≤ w11.heap.size) := hide b.size
  have K : Hid (Below w.heap.size w w11 ∧ Blk w11 w.heap.size [.int .i64 cx, .int .i64 cy, .int .i64 cd, .int .i64 ch, .int .i64 cc] ∧ OwnI w11 w4.heap.size (.slice a3 ((rtL cx cy cd ch cc ls).length) c4) (rtL cx cy cd ch cc ls) ∧ Blk w11 X5 [.int .i64 (rtX cx cy cd ch cc ls), .int .i64 (rtY cx cy cd ch cc ls), .int .i64 (rtD cx cy cd ch cc ls), .int .i64 (rtH cx cy cd ch cc ls), .int .i64 (rtC cx cy cd ch cc ls)] ∧ OwnE 4 lgC w11 w6.heap.size 30 (.slice (some ⟨g6, 0, none⟩) ll1 ll1) ls ∧ OwnI w11 w8.heap.size (.slice a7 ((rtL cx cy cd ch cc ls).length) c8) (rtL cx cy cd ch cc ls) ∧ Blk w11 X9 [.int .i64 (rtX cx cy cd ch cc ls), .int .i64 (rtY cx cy cd ch cc ls), .int .i64 (rtD cx cy cd ch cc ls), .int .i64 (rtH cx cy cd ch cc ls), .int .i64 (rtC cx cy cd ch cc ls)]) := hide ((unhide KEPT) _ _ (unhide K) b)
  clear b
  have mPp0 : w11.cell? ⟨w.heap.size, 0, none⟩ = some (.int .i64 cx) := (unhide K).2.1.c 0 (by simp)
  have mPp1 : w11.cell? ⟨w.heap.size, 1, none⟩ = some (.int .i64 cy) := (unhide K).2.1.c 1 (by simp)
  have mPp2 : w11.cell? ⟨w.heap.size, 2, none⟩ = some (.int .i64 cd) := (unhide K).2.1.c 2 (by simp)
  have mPp3 : w11.cell? ⟨w.heap.size, 3, none⟩ = some (.int .i64 ch) := (unhide K).2.1.c 3 (by simp)
  have mPp4 : w11.cell? ⟨w.heap.size, 4, none⟩ = some (.int .i64 cc) := (unhide K).2.1.c 4 (by simp)
  have mQWp00 : w11.cell? ⟨X5, 0, none⟩ = some (.int .i64 (rtX cx cy cd ch cc ls)) := (unhide K).2.2.2.1.c 0 (by simp)
  have mQWp01 : w11.cell? ⟨X5, 1, none⟩ = some (.int .i64 (rtY cx cy cd ch cc ls)) := (unhide K).2.2.2.1.c 1 (by simp)
  have mQWp02 : w11.cell? ⟨X5, 2, none⟩ = some (.int .i64 (rtD cx cy cd ch cc ls)) := (unhide K).2.2.2.1.c 2 (by simp)
  have mQWp03 : w11.cell? ⟨X5, 3, none⟩ = some (.int .i64 (rtH cx cy cd ch cc ls)) := (unhide K).2.2.2.1.c 3 (by simp)
  have mQWp04 : w11.cell? ⟨X5, 4, none⟩ = some (.int .i64 (rtC cx cy cd ch cc ls)) := (unhide K).2.2.2.1.c 4 (by simp)
  have mQGp00 : w11.cell? ⟨X9, 0, none⟩ = some (.int .i64 (rtX cx cy cd ch cc ls)) := (unhide K).2.2.2.2.2.2.c 0 (by simp)
  have mQGp01 : w11.cell? ⟨X9, 1, none⟩ = some (.int .i64 (rtY cx cy cd ch cc ls)) := (unhide K).2.2.2.2.2.2.c 1 (by simp)
  have mQGp02 : w11.cell? ⟨X9, 2, none⟩ = some (.int .i64 (rtD cx cy cd ch cc ls)) := (unhide K).2.2.2.2.2.2.c 2 (by simp)
  have mQGp03 : w11.cell? ⟨X9, 3, none⟩ = some (.int .i64 (rtH cx cy cd ch cc ls)) := (unhide K).2.2.2.2.2.2.c 3 (by simp)
  have mQGp04 : w11.cell? ⟨X9, 4, none⟩ = some (.int .i64 (rtC cx cy cd ch cc ls)) := (unhide K).2.2.2.2.2.2.c 4 (by simp)
  go_wp2_with fail
  clear mPp0 mPp1 mPp2 mPp3 mPp4 mQWp00 mQWp01 mQWp02 mQWp03 mQWp04 mQGp00 mQGp01 mQGp02 mQGp03 mQGp04
  refine (eqIntS_same _ _ _ _ _ _ _ _ (unhide K).2.2.2.2.2.1.row (unhide K).2.2.1.row).mono ?_
  rintro x w12 ⟨rfl, b⟩
  have S15 : Hid (w11.heap.size ≤ w12.heap.size) := hide b.size
  have K : Hid (Below w.heap.size w w12 ∧ Blk w12 w.heap.size [.int .i64 cx, .int .i64 cy, .int .i64 cd, .int .i64 ch, .int .i64 cc] ∧ OwnI w12 w4.heap.size (.slice a3 ((rtL cx cy cd ch cc ls).length) c4) (rtL cx cy cd ch cc ls) ∧ Blk w12 X5 [.int .i64 (rtX cx cy cd ch cc ls), .int .i64 (rtY cx cy cd ch cc ls), .int .i64 (rtD cx cy cd ch cc ls), .int .i64 (rtH cx cy cd ch cc ls), .int .i64 (rtC cx cy cd ch cc ls)] ∧ OwnE 4 lgC w12 w6.heap.size 30 (.slice (some ⟨g6, 0, none⟩) ll1 ll1) ls ∧ OwnI w12 w8.heap.size (.slice a7 ((rtL cx cy cd ch cc ls).length) c8) (rtL cx cy cd ch cc ls) ∧ Blk w12 X9 [.int .i64 (rtX cx cy cd ch cc ls), .int .i64 (rtY cx cy cd ch cc ls), .int .i64 (rtD cx cy cd ch cc ls), .int .i64 (rtH cx cy cd ch cc ls), .int .i64 (rtC cx cy cd ch cc ls)]) := hide ((unhide KEPT) _ _ (unhide K) b)
  clear b
  have mPp0 : w12.cell? ⟨w.heap.size, 0, none⟩ = some (.int .i64 cx) := (unhide K).2.1.c 0 (by simp)
  have mPp1 : w12.cell? ⟨w.heap.size, 1, none⟩ = some (.int .i64 cy) := (unhide K).2.1.c 1 (by simp)
  have mPp2 : w12.cell? ⟨w.heap.size, 2, none⟩ = some (.int .i64 cd) := (unhide K).2.1.c 2 (by simp)
  have mPp3 : w12.cell? ⟨w.heap.size, 3, none⟩ = some (.int .i64 ch) := (unhide K).2.1.c 3 (by simp)
  have mPp4 : w12.cell? ⟨w.heap.size, 4, none⟩ = some (.int .i64 cc) := (unhide K).2.1.c 4 (by simp)
  have mQWp00 : w12.cell? ⟨X5, 0, none⟩ = some (.int .i64 (rtX cx cy cd ch cc ls)) := (unhide K).2.2.2.1.c 0 (by simp)
  have mQWp01 : w12.cell? ⟨X5, 1, none⟩ = some (.int .i64 (rtY cx cy cd ch cc ls)) := (unhide K).2.2.2.1.c 1 (by simp)
  have mQWp02 : w12.cell? ⟨X5, 2, none⟩ = some (.int .i64 (rtD cx cy cd ch cc ls)) := (unhide K).2.2.2.1.c 2 (by simp)
  have mQWp03 : w12.cell? ⟨X5, 3, none⟩ = some (.int .i64 (rtH cx cy cd ch cc ls)) := (unhide K).2.2.2.1.c 3 (by simp)
  have mQWp04 : w12.cell? ⟨X5, 4, none⟩ = some (.int .i64 (rtC cx cy cd ch cc ls)) := (unhide K).2.2.2.1.c 4 (by simp)
  have mQGp00 : w12.cell? ⟨X9, 0, none⟩ = some (.int .i64 (rtX cx cy cd ch cc ls)) := (unhide K).2.2.2.2.2.2.c 0 (by simp)
  have mQGp01 : w12.cell? ⟨X9, 1, none⟩ = some (.int .i64 (rtY cx cy cd ch cc ls)) := (unhide K).2.2.2.2.2.2.c 1 (by simp)
  have mQGp02 : w12.cell? ⟨X9, 2, none⟩ = some (.int .i64 (rtD cx cy cd ch cc ls)) := (unhide K).2.2.2.2.2.2.c 2 (by simp)
  have mQGp03 : w12.cell? ⟨X9, 3, none⟩ = some (.int .i64 (rtH cx cy cd ch cc ls)) := (unhide K).2.2.2.2.2.2.c 3 (by simp)
  have mQGp04 : w12.cell? ⟨X9, 4, none⟩ = some (.int .i64 (rtC cx cy cd ch cc ls)) := (unhide K).2.2.2.2.2.2.c 4 (by simp)
  go_wp2_with fail
  clear mPp0 mPp1 mPp2 mPp3 mPp4 mQWp00 mQWp01 mQWp02 mQWp03 mQWp04 mQGp00 mQGp01 mQGp02 mQGp03 mQGp04
  obtain ⟨g10, hg10⟩ : ∃ G, w12.heap.size = G := ⟨_, rfl⟩
  refine (toLegS_own _ _ _ _ _ ((unhide Rl).below (unhide K).1) hl1).mono ?_
  rintro x w13 ⟨rfl, oc, b⟩
  rw [hg10] at oc ⊢
  have Bg10 := hide hg10
  clear hg10
  have IC := hide oc.row
  have S16 : Hid (w12.heap.size ≤ w13.heap.size) := hide b.size
  have K : Hid (Below w.heap.size w w13 ∧ Blk w13 w.heap.size [.int .i64 cx, .int .i64 cy, .int .i64 cd, .int .i64 ch, .int .i64 cc] ∧ OwnI w13 w4.heap.size (.slice a3 ((rtL cx cy cd ch cc ls).length) c4) (rtL cx cy cd ch cc ls) ∧ Blk w13 X5 [.int .i64 (rtX cx cy cd ch cc ls), .int .i64 (rtY cx cy cd ch cc ls), .int .i64 (rtD cx cy cd ch cc ls), .int .i64 (rtH cx cy cd ch cc ls), .int .i64 (rtC cx cy cd ch cc ls)] ∧ OwnE 4 lgC w13 w6.heap.size 30 (.slice (some ⟨g6, 0, none⟩) ll1 ll1) ls ∧ OwnI w13 w8.heap.size (.slice a7 ((rtL cx cy cd ch cc ls).length) c8) (rtL cx cy cd ch cc ls) ∧ Blk w13 X9 [.int .i64 (rtX cx cy cd ch cc ls), .int .i64 (rtY cx cy cd ch cc ls), .int .i64 (rtD cx cy cd ch cc ls), .int .i64 (rtH cx cy cd ch cc ls), .int .i64 (rtC cx cy cd ch cc ls)]) := hide ((unhide KEPT) _ _ (unhide K) b)
  clear oc b
  have mPp0 : w13.cell? ⟨w.heap.size, 0, none⟩ = some (.int .i64 cx) := (unhide K).2.1.c 0 (by simp)
  have mPp1 : w13.cell? ⟨w.heap.size, 1, none⟩ = some (.int .i64 cy) := (unhide K).2.1.c 1 (by simp)
  have mPp2 : w13.cell? ⟨w.heap.size, 2, none⟩ = some (.int .i64 cd) := (unhide K).2.1.c 2 (by simp)
  have mPp3 : w13.cell? ⟨w.heap.size, 3, none⟩ = some (.int .i64 ch) := (unhide K).2.1.c 3 (by simp)
  have mPp4 : w13.cell? ⟨w.heap.size, 4, none⟩ = some (.int .i64 cc) := (unhide K).2.1.c 4 (by simp)
  have mQWp00 : w13.cell? ⟨X5, 0, none⟩ = some (.int .i64 (rtX cx cy cd ch cc ls)) := (unhide K).2.2.2.1.c 0 (by simp)
  have mQWp01 : w13.cell? ⟨X5, 1, none⟩ = some (.int .i64 (rtY cx cy cd ch cc ls)) := (unhide K).2.2.2.1.c 1 (by simp)
  have mQWp02 : w13.cell? ⟨X5, 2, none⟩ = some (.int .i64 (rtD cx cy cd ch cc ls)) := (unhide K).2.2.2.1.c 2 (by simp)
  have mQWp03 : w13.cell? ⟨X5, 3, none⟩ = some (.int .i64 (rtH cx cy cd ch cc ls)) := (unhide K).2.2.2.1.c 3 (by simp)
  have mQWp04 : w13.cell? ⟨X5, 4, none⟩ = some (.int .i64 (rtC cx cy cd ch cc ls)) := (unhide K).2.2.2.1.c 4 (by simp)
  have mQGp00 : w13.cell? ⟨X9, 0, none⟩ = some (.int .i64 (rtX cx cy cd ch cc ls)) := (unhide K).2.2.2.2.2.2.c 0 (by simp)
  have mQGp01 : w13.cell? ⟨X9, 1, none⟩ = some (.int .i64 (rtY cx cy cd ch cc ls)) := (unhide K).2.2.2.2.2.2.c 1 (by simp)
  have mQGp02 : w13.cell? ⟨X9, 2, none⟩ = some (.int .i64 (rtD cx cy cd ch cc ls)) := (unhide K).2.2.2.2.2.2.c 2 (by simp)
  have mQGp03 : w13.cell? ⟨X9, 3, none⟩ = some (.int .i64 (rtH cx cy cd ch cc ls)) := (unhide K).2.2.2.2.2.2.c 3 (by simp)
  have mQGp04 : w13.cell? ⟨X9, 4, none⟩ = some (.int .i64 (rtC cx cy cd ch cc ls)) := (unhide K).2.2.2.2.2.2.c 4 (by simp)
  go_wp2_with fail
  clear mPp0 mPp1 mPp2 mPp3 mPp4 mQWp00 mQWp01 mQWp02 mQWp03 mQWp04 mQGp00 mQGp01 mQGp02 mQGp03 mQGp04
  refine (eqLegS_same _ _ _ _ _ _ _ _ (unhide K).2.2.2.2.1.row (unhide IC)).mono ?_
  rintro x w14 ⟨rfl, b⟩
  have S17 : Hid (w13.heap.size ≤ w14.heap.size) := hide b.size
  have K : Hid (Below w.heap.size w w14 ∧ Blk w14 w.heap.size [.int .i64 cx, .int .i64 cy, .int .i64 cd, .int .i64 ch, .int .i64 cc] ∧ OwnI w14 w4.heap.size (.slice a3 ((rtL cx cy cd ch cc ls).length) c4) (rtL cx cy cd ch cc ls) ∧ Blk w14 X5 [.int .i64 (rtX cx cy cd ch cc ls), .int .i64 (rtY cx cy cd ch cc ls), .int .i64 (rtD cx cy cd ch cc ls), .int .i64 (rtH cx cy cd ch cc ls), .int .i64 (rtC cx cy cd ch cc ls)] ∧ OwnE 4 lgC w14 w6.heap.size 30 (.slice (some ⟨g6, 0, none⟩) ll1 ll1) ls ∧ OwnI w14 w8.heap.size (.slice a7 ((rtL cx cy cd ch cc ls).length) c8) (rtL cx cy cd ch cc ls) ∧ Blk w14 X9 [.int .i64 (rtX cx cy cd ch cc ls), .int .i64 (rtY cx cy cd ch cc ls), .int .i64 (rtD cx cy cd ch cc ls), .int .i64 (rtH cx cy cd ch cc ls), .int .i64 (rtC cx cy cd ch cc ls)]) := hide ((unhide KEPT) _ _ (unhide K) b)
  clear b IC
  have mPp0 : w14.cell? ⟨w.heap.size, 0, none⟩ = some (.int .i64 cx) := (unhide K).2.1.c 0 (by simp)
  have mPp1 : w14.cell? ⟨w.heap.size, 1, none⟩ = some (.int .i64 cy) := (unhide K).2.1.c 1 (by simp)
  have mPp2 : w14.cell? ⟨w.heap.size, 2, none⟩ = some (.int .i64 cd) := (unhide K).2.1.c 2 (by simp)
  have mPp3 : w14.cell? ⟨w.heap.size, 3, none⟩ = some (.int .i64 ch) := (unhide K).2.1.c 3 (by simp)
  have mPp4 : w14.cell? ⟨w.heap.size, 4, none⟩ = some (.int .i64 cc) := (unhide K).2.1.c 4 (by simp)
  have mQWp00 : w14.cell? ⟨X5, 0, none⟩ = some (.int .i64 (rtX cx cy cd ch cc ls)) := (unhide K).2.2.2.1.c 0 (by simp)
  have mQWp01 : w14.cell? ⟨X5, 1, none⟩ = some (.int .i64 (rtY cx cy cd ch cc ls)) := (unhide K).2.2.2.1.c 1 (by simp)
  have mQWp02 : w14.cell? ⟨X5, 2, none⟩ = some (.int .i64 (rtD cx cy cd ch cc ls)) := (unhide K).2.2.2.1.c 2 (by simp)
  have mQWp03 : w14.cell? ⟨X5, 3, none⟩ = some (.int .i64 (rtH cx cy cd ch cc ls)) := (unhide K).2.2.2.1.c 3 (by simp)
  have mQWp04 : w14.cell? ⟨X5, 4, none⟩ = some (.int .i64 (rtC cx cy cd ch cc ls)) := (unhide K).2.2.2.1.c 4 (by simp)
  have mQGp00 : w14.cell? ⟨X9, 0, none⟩ = some (.int .i64 (rtX cx cy cd ch cc ls)) := (unhide K).2.2.2.2.2.2.c 0 (by simp)
  have mQGp01 : w14.cell? ⟨X9, 1, none⟩ = some (.int .i64 (rtY cx cy cd ch cc ls)) := (unhide K).2.2.2.2.2.2.c 1 (by simp)
  have mQGp02 : w14.cell? ⟨X9, 2, none⟩ = some (.int .i64 (rtD cx cy cd ch cc ls)) := (unhide K).2.2.2.2.2.2.c 2 (by simp)
  have mQGp03 : w14.cell? ⟨X9, 3, none⟩ = some (.int .i64 (rtH cx cy cd ch cc ls)) := (unhide K).2.2.2.2.2.2.c 3 (by simp)
  have mQGp04 : w14.cell? ⟨X9, 4, none⟩ = some (.int .i64 (rtC cx cy cd ch cc ls)) := (unhide K).2.2.2.2.2.2.c 4 (by simp)
  go_wp2_with fail
  clear mPp0 mPp1 mPp2 mPp3 mPp4 mQWp00 mQWp01 mQWp02 mQWp03 mQWp04 mQGp00 mQGp01 mQGp02 mQGp03 mQGp04
  refine (markLegS_any _ _ _ _ _ 1 _ (unhide K).2.2.2.2.1 (unhide El1) (hl1) (by omega) (by omega)).mono ?_
  rintro x w15 ⟨rfl, om, gr⟩
  have on := Only.of_row (lo := w6.heap.size) (hi := w7.heap.size) gr (unhide LXx1)
  have S18 : Hid (w14.heap.size ≤ w15.heap.size) := hide on.size
  have K : Hid (Below w.heap.size w w15 ∧ Blk w15 w.heap.size [.int .i64 cx, .int .i64 cy, .int .i64 cd, .int .i64 ch, .int .i64 cc] ∧ OwnI w15 w4.heap.size (.slice a3 ((rtL cx cy cd ch cc ls).length) c4) (rtL cx cy cd ch cc ls) ∧ Blk w15 X5 [.int .i64 (rtX cx cy cd ch cc ls), .int .i64 (rtY cx cy cd ch cc ls), .int .i64 (rtD cx cy cd ch cc ls), .int .i64 (rtH cx cy cd ch cc ls), .int .i64 (rtC cx cy cd ch cc ls)] ∧ OwnI w15 w8.heap.size (.slice a7 ((rtL cx cy cd ch cc ls).length) c8) (rtL cx cy cd ch cc ls) ∧ Blk w15 X9 [.int .i64 (rtX cx cy cd ch cc ls), .int .i64 (rtY cx cy cd ch cc ls), .int .i64 (rtD cx cy cd ch cc ls), .int .i64 (rtH cx cy cd ch cc ls), .int .i64 (rtC cx cy cd ch cc ls)]) := hide ⟨below_only (unhide K).1 on (by have s0 := unhide S0; have s1 := unhide S1; have s2 := unhide S2; have s3 := unhide S3; have s4 := unhide S4; have s5 := unhide S5; have s6 := unhide S6; have s7 := unhide S7; have s8 := unhide S8; have s9 := unhide S9; have s10 := unhide S10; have s11 := unhide S11; have s12 := unhide S12; have s13 := unhide S13; have s14 := unhide S14; have s15 := unhide S15; have s16 := unhide S16; have s17 := unhide S17; have s18 := unhide S18; omega) (Nat.le_refl _), (unhide K).2.1.only on (by have s0 := unhide S0; have s1 := unhide S1; have s2 := unhide S2; have s3 := unhide S3; have s4 := unhide S4; have s5 := unhide S5; have s6 := unhide S6; have s7 := unhide S7; have s8 := unhide S8; have s9 := unhide S9; have s10 := unhide S10; have s11 := unhide S11; have s12 := unhide S12; have s13 := unhide S13; have s14 := unhide S14; have s15 := unhide S15; have s16 := unhide S16; have s17 := unhide S17; have s18 := unhide S18; omega), (unhide K).2.2.1.only on (fun g hg => by have := (unhide LW1) g hg; have s0 := unhide S0; have s1 := unhide S1; have s2 := unhide S2; have s3 := unhide S3; have s4 := unhide S4; have s5 := unhide S5; have s6 := unhide S6; have s7 := unhide S7; have s8 := unhide S8; have s9 := unhide S9; have s10 := unhide S10; have s11 := unhide S11; have s12 := unhide S12; have s13 := unhide S13; have s14 := unhide S14; have s15 := unhide S15; have s16 := unhide S16; have s17 := unhide S17; have s18 := unhide S18; omega), (unhide K).2.2.2.1.only on (by have s0 := unhide S0; have s1 := unhide S1; have s2 := unhide S2; have s3 := unhide S3; have s4 := unhide S4; have s5 := unhide S5; have s6 := unhide S6; have s7 := unhide S7; have s8 := unhide S8; have s9 := unhide S9; have s10 := unhide S10; have s11 := unhide S11; have s12 := unhide S12; have s13 := unhide S13; have s14 := unhide S14; have s15 := unhide S15; have s16 := unhide S16; have s17 := unhide S17; have s18 := unhide S18; omega), (unhide K).2.2.2.2.2.1.only on (fun g hg => by have := (unhide LG1) g hg; have s0 := unhide S0; have s1 := unhide S1; have s2 := unhide S2; have s3 := unhide S3; have s4 := unhide S4; have s5 := unhide S5; have s6 := unhide S6; have s7 := unhide S7; have s8 := unhide S8; have s9 := unhide S9; have s10 := unhide S10; have s11 := unhide S11; have s12 := unhide S12; have s13 := unhide S13; have s14 := unhide S14; have s15 := unhide S15; have s16 := unhide S16; have s17 := unhide S17; have s18 := unhide S18; omega), (unhide K).2.2.2.2.2.2.only on (by have s0 := unhide S0; have s1 := unhide S1; have s2 := unhide S2; have s3 := unhide S3; have s4 := unhide S4; have s5 := unhide S5; have s6 := unhide S6; have s7 := unhide S7; have s8 := unhide S8; have s9 := unhide S9; have s10 := unhide S10; have s11 := unhide S11; have s12 := unhide S12; have s13 := unhide S13; have s14 := unhide S14; have s15 := unhide S15; have s16 := unhide S16; have s17 := unhide S17; have s18 := unhide S18; omega)⟩
  clear KEPT om on gr
  have KEPT : Hid (∀ W u3, (Below w.heap.size w W ∧ Blk W w.heap.size [.int .i64 cx, .int .i64 cy, .int .i64 cd, .int .i64 ch, .int .i64 cc] ∧ OwnI W w4.heap.size (.slice a3 ((rtL cx cy cd ch cc ls).length) c4) (rtL cx cy cd ch cc ls) ∧ Blk W X5 [.int .i64 (rtX cx cy cd ch cc ls), .int .i64 (rtY cx cy cd ch cc ls), .int .i64 (rtD cx cy cd ch cc ls), .int .i64 (rtH cx cy cd ch cc ls), .int .i64 (rtC cx cy cd ch cc ls)] ∧ OwnI W w8.heap.size (.slice a7 ((rtL cx cy cd ch cc ls).length) c8) (rtL cx cy cd ch cc ls) ∧ Blk W X9 [.int .i64 (rtX cx cy cd ch cc ls), .int .i64 (rtY cx cy cd ch cc ls), .int .i64 (rtD cx cy cd ch cc ls), .int .i64 (rtH cx cy cd ch cc ls), .int .i64 (rtC cx cy cd ch cc ls)]) → Below W.heap.size W u3 → (Below w.heap.size w u3 ∧ Blk u3 w.heap.size [.int .i64 cx, .int .i64 cy, .int .i64 cd, .int .i64 ch, .int .i64 cc] ∧ OwnI u3 w4.heap.size (.slice a3 ((rtL cx cy cd ch cc ls).length) c4) (rtL cx cy cd ch cc ls) ∧ Blk u3 X5 [.int .i64 (rtX cx cy cd ch cc ls), .int .i64 (rtY cx cy cd ch cc ls), .int .i64 (rtD cx cy cd ch cc ls), .int .i64 (rtH cx cy cd ch cc ls), .int .i64 (rtC cx cy cd ch cc ls)] ∧ OwnI u3 w8.heap.size (.slice a7 ((rtL cx cy cd ch cc ls).length) c8) (rtL cx cy cd ch cc ls) ∧ Blk u3 X9 [.int .i64 (rtX cx cy cd ch cc ls), .int .i64 (rtY cx cy cd ch cc ls), .int .i64 (rtD cx cy cd ch cc ls), .int .i64 (rtH cx cy cd ch cc ls), .int .i64 (rtC cx cy cd ch cc ls)])) := hide (fun W u3 h b => ⟨h.1.trans (b.mono h.1.size), h.2.1.below b, h.2.2.1.below b, h.2.2.2.1.below b, h.2.2.2.2.1.below b, h.2.2.2.2.2.below b⟩)
  have nk15 : ¬ (1 + 4 * (ll1 : Int) < 0) := by omega
  have mPp0 : w15.cell? ⟨w.heap.size, 0, none⟩ = some (.int .i64 cx) := (unhide K).2.1.c 0 (by simp)
  have mPp1 : w15.cell? ⟨w.heap.size, 1, none⟩ = some (.int .i64 cy) := (unhide K).2.1.c 1 (by simp)
  have mPp2 : w15.cell? ⟨w.heap.size, 2, none⟩ = some (.int .i64 cd) := (unhide K).2.1.c 2 (by simp)
  have mPp3 : w15.cell? ⟨w.heap.size, 3, none⟩ = some (.int .i64 ch) := (unhide K).2.1.c 3 (by simp)
  have mPp4 : w15.cell? ⟨w.heap.size, 4, none⟩ = some (.int .i64 cc) := (unhide K).2.1.c 4 (by simp)
  have mQWp00 : w15.cell? ⟨X5, 0, none⟩ = some (.int .i64 (rtX cx cy cd ch cc ls)) := (unhide K).2.2.2.1.c 0 (by simp)
  have mQWp01 : w15.cell? ⟨X5, 1, none⟩ = some (.int .i64 (rtY cx cy cd ch cc ls)) := (unhide K).2.2.2.1.c 1 (by simp)
  have mQWp02 : w15.cell? ⟨X5, 2, none⟩ = some (.int .i64 (rtD cx cy cd ch cc ls)) := (unhide K).2.2.2.1.c 2 (by simp)
  have mQWp03 : w15.cell? ⟨X5, 3, none⟩ = some (.int .i64 (rtH cx cy cd ch cc ls)) := (unhide K).2.2.2.1.c 3 (by simp)
  have mQWp04 : w15.cell? ⟨X5, 4, none⟩ = some (.int .i64 (rtC cx cy cd ch cc ls)) := (unhide K).2.2.2.1.c 4 (by simp)
  have mQGp00 : w15.cell? ⟨X9, 0, none⟩ = some (.int .i64 (rtX cx cy cd ch cc ls)) := (unhide K).2.2.2.2.2.c 0 (by simp)
  have mQGp01 : w15.cell? ⟨X9, 1, none⟩ = some (.int .i64 (rtY cx cy cd ch cc ls)) := (unhide K).2.2.2.2.2.c 1 (by simp)
  have mQGp02 : w15.cell? ⟨X9, 2, none⟩ = some (.int .i64 (rtD cx cy cd ch cc ls)) := (unhide K).2.2.2.2.2.c 2 (by simp)
  have mQGp03 : w15.cell? ⟨X9, 3, none⟩ = some (.int .i64 (rtH cx cy cd ch cc ls)) := (unhide K).2.2.2.2.2.c 3 (by simp)
  have mQGp04 : w15.cell? ⟨X9, 4, none⟩ = some (.int .i64 (rtC cx cy cd ch cc ls)) := (unhide K).2.2.2.2.2.c 4 (by simp)
  go_wp2_with fail
  clear mPp0 mPp1 mPp2 mPp3 mPp4 mQWp00 mQWp01 mQWp02 mQWp03 mQWp04 mQGp00 mQGp01 mQGp02 mQGp03 mQGp04
  refine (eqCraft_alike _ _ _ _ _ _ _ _ _ _ _ (cfAlike_refl _)).mono ?_
  rintro x w16 ⟨rfl, b⟩
  have S19 : Hid (w15.heap.size ≤ w16.heap.size) := hide b.size
  have K : Hid (Below w.heap.size w w16 ∧ Blk w16 w.heap.size [.int .i64 cx, .int .i64 cy, .int .i64 cd, .int .i64 ch, .int .i64 cc] ∧ OwnI w16 w4.heap.size (.slice a3 ((rtL cx cy cd ch cc ls).length) c4) (rtL cx cy cd ch cc ls) ∧ Blk w16 X5 [.int .i64 (rtX cx cy cd ch cc ls), .int .i64 (rtY cx cy cd ch cc ls), .int .i64 (rtD cx cy cd ch cc ls), .int .i64 (rtH cx cy cd ch cc ls), .int .i64 (rtC cx cy cd ch cc ls)] ∧ OwnI w16 w8.heap.size (.slice a7 ((rtL cx cy cd ch cc ls).length) c8) (rtL cx cy cd ch cc ls) ∧ Blk w16 X9 [.int .i64 (rtX cx cy cd ch cc ls), .int .i64 (rtY cx cy cd ch cc ls), .int .i64 (rtD cx cy cd ch cc ls), .int .i64 (rtH cx cy cd ch cc ls), .int .i64 (rtC cx cy cd ch cc ls)]) := hide ((unhide KEPT) _ _ (unhide K) b)
  clear b
  have mPp0 : w16.cell? ⟨w.heap.size, 0, none⟩ = some (.int .i64 cx) := (unhide K).2.1.c 0 (by simp)
  have mPp1 : w16.cell? ⟨w.heap.size, 1, none⟩ = some (.int .i64 cy) := (unhide K).2.1.c 1 (by simp)
  have mPp2 : w16.cell? ⟨w.heap.size, 2, none⟩ = some (.int .i64 cd) := (unhide K).2.1.c 2 (by simp)
  have mPp3 : w16.cell? ⟨w.heap.size, 3, none⟩ = some (.int .i64 ch) := (unhide K).2.1.c 3 (by simp)
  have mPp4 : w16.cell? ⟨w.heap.size, 4, none⟩ = some (.int .i64 cc) := (unhide K).2.1.c 4 (by simp)
  have mQWp00 : w16.cell? ⟨X5, 0, none⟩ = some (.int .i64 (rtX cx cy cd ch cc ls)) := (unhide K).2.2.2.1.c 0 (by simp)
  have mQWp01 : w16.cell? ⟨X5, 1, none⟩ = some (.int .i64 (rtY cx cy cd ch cc ls)) := (unhide K).2.2.2.1.c 1 (by simp)
  have mQWp02 : w16.cell? ⟨X5, 2, none⟩ = some (.int .i64 (rtD cx cy cd ch cc ls)) := (unhide K).2.2.2.1.c 2 (by simp)
  have mQWp03 : w16.cell? ⟨X5, 3, none⟩ = some (.int .i64 (rtH cx cy cd ch cc ls)) := (unhide K).2.2.2.1.c 3 (by simp)
  have mQWp04 : w16.cell? ⟨X5, 4, none⟩ = some (.int .i64 (rtC cx cy cd ch cc ls)) := (unhide K).2.2.2.1.c 4 (by simp)
  have mQGp00 : w16.cell? ⟨X9, 0, none⟩ = some (.int .i64 (rtX cx cy cd ch cc ls)) := (unhide K).2.2.2.2.2.c 0 (by simp)
  have mQGp01 : w16.cell? ⟨X9, 1, none⟩ = some (.int .i64 (rtY cx cy cd ch cc ls)) := (unhide K).2.2.2.2.2.c 1 (by simp)
  have mQGp02 : w16.cell? ⟨X9, 2, none⟩ = some (.int .i64 (rtD cx cy cd ch cc ls)) := (unhide K).2.2.2.2.2.c 2 (by simp)
  have mQGp03 : w16.cell? ⟨X9, 3, none⟩ = some (.int .i64 (rtH cx cy cd ch cc ls)) := (unhide K).2.2.2.2.2.c 3 (by simp)
  have mQGp04 : w16.cell? ⟨X9, 4, none⟩ = some (.int .i64 (rtC cx cy cd ch cc ls)) := (unhide K).2.2.2.2.2.c 4 (by simp)
  go_wp2_with fail
  clear mPp0 mPp1 mPp2 mPp3 mPp4 mQWp00 mQWp01 mQWp02 mQWp03 mQWp04 mQGp00 mQGp01 mQGp02 mQGp03 mQGp04
  refine (eqIntS_same _ _ _ _ _ _ _ _ (unhide K).2.2.2.2.1.row (unhide K).2.2.1.row).mono ?_
  rintro x w17 ⟨rfl, b⟩
  have S20 : Hid (w16.heap.size ≤ w17.heap.size) := hide b.size
  have K : Hid (Below w.heap.size w w17 ∧ Blk w17 w.heap.size [.int .i64 cx, .int .i64 cy, .int .i64 cd, .int .i64 ch, .int .i64 cc] ∧ OwnI w17 w4.heap.size (.slice a3 ((rtL cx cy cd ch cc ls).length) c4) (rtL cx cy cd ch cc ls) ∧ Blk w17 X5 [.int .i64 (rtX cx cy cd ch cc ls), .int .i64 (rtY cx cy cd ch cc ls), .int .i64 (rtD cx cy cd ch cc ls), .int .i64 (rtH cx cy cd ch cc ls), .int .i64 (rtC cx cy cd ch cc ls)] ∧ OwnI w17 w8.heap.size (.slice a7 ((rtL cx cy cd ch cc ls).length) c8) (rtL cx cy cd ch cc ls) ∧ Blk w17 X9 [.int .i64 (rtX cx cy cd ch cc ls), .int .i64 (rtY cx cy cd ch cc ls), .int .i64 (rtD cx cy cd ch cc ls), .int .i64 (rtH cx cy cd ch cc ls), .int .i64 (rtC cx cy cd ch cc ls)]) := hide ((unhide KEPT) _ _ (unhide K) b)
  clear b
  have mPp0 : w17.cell? ⟨w.heap.size, 0, none⟩ = some (.int .i64 cx) := (unhide K).2.1.c 0 (by simp)
  have mPp1 : w17.cell? ⟨w.heap.size, 1, none⟩ = some (.int .i64 cy) := (unhide K).2.1.c 1 (by simp)
  have mPp2 : w17.cell? ⟨w.heap.size, 2, none⟩ = some (.int .i64 cd) := (unhide K).2.1.c 2 (by simp)
  have mPp3 : w17.cell? ⟨w.heap.size, 3, none⟩ = some (.int .i64 ch) := (unhide K).2.1.c 3 (by simp)
  have mPp4 : w17.cell? ⟨w.heap.size, 4, none⟩ = some (.int .i64 cc) := (unhide K).2.1.c 4 (by simp)
  have mQWp00 : w17.cell? ⟨X5, 0, none⟩ = some (.int .i64 (rtX cx cy cd ch cc ls)) := (unhide K).2.2.2.1.c 0 (by simp)
  have mQWp01 : w17.cell? ⟨X5, 1, none⟩ = some (.int .i64 (rtY cx cy cd ch cc ls)) := (unhide K).2.2.2.1.c 1 (by simp)
  have mQWp02 : w17.cell? ⟨X5, 2, none⟩ = some (.int .i64 (rtD cx cy cd ch cc ls)) := (unhide K).2.2.2.1.c 2 (by simp)
  have mQWp03 : w17.cell? ⟨X5, 3, none⟩ = some (.int .i64 (rtH cx cy cd ch cc ls)) := (unhide K).2.2.2.1.c 3 (by simp)
  have mQWp04 : w17.cell? ⟨X5, 4, none⟩ = some (.int .i64 (rtC cx cy cd ch cc ls)) := (unhide K).2.2.2.1.c 4 (by simp)
  have mQGp00 : w17.cell? ⟨X9, 0, none⟩ = some (.int .i64 (rtX cx cy cd ch cc ls)) := (unhide K).2.2.2.2.2.c 0 (by simp)
  have mQGp01 : w17.cell? ⟨X9, 1, none⟩ = some (.int .i64 (rtY cx cy cd ch cc ls)) := (unhide K).2.2.2.2.2.c 1 (by simp)
  have mQGp02 : w17.cell? ⟨X9, 2, none⟩ = some (.int .i64 (rtD cx cy cd ch cc ls)) := (unhide K).2.2.2.2.2.c 2 (by simp)
  have mQGp03 : w17.cell? ⟨X9, 3, none⟩ = some (.int .i64 (rtH cx cy cd ch cc ls)) := (unhide K).2.2.2.2.2.c 3 (by simp)
  have mQGp04 : w17.cell? ⟨X9, 4, none⟩ = some (.int .i64 (rtC cx cy cd ch cc ls)) := (unhide K).2.2.2.2.2.c 4 (by simp)
  go_wp2_with fail
  clear mPp0 mPp1 mPp2 mPp3 mPp4 mQWp00 mQWp01 mQWp02 mQWp03 mQWp04 mQGp00 mQGp01 mQGp02 mQGp03 mQGp04
  refine (markIntS_own _ _ _ _ _ 1 _ (unhide K).2.2.2.2.1 (rfl) (by have := hsm; omega) (by omega) (by omega)).mono ?_
  rintro x w18 ⟨rfl, om, gr⟩
  have on := Only.of_row (lo := w8.heap.size) (hi := w9.heap.size) gr (unhide LG1)
  have S21 : Hid (w17.heap.size ≤ w18.heap.size) := hide on.size
  have K : Hid (Below w.heap.size w w18 ∧ Blk w18 w.heap.size [.int .i64 cx, .int .i64 cy, .int .i64 cd, .int .i64 ch, .int .i64 cc] ∧ OwnI w18 w4.heap.size (.slice a3 ((rtL cx cy cd ch cc ls).length) c4) (rtL cx cy cd ch cc ls) ∧ Blk w18 X5 [.int .i64 (rtX cx cy cd ch cc ls), .int .i64 (rtY cx cy cd ch cc ls), .int .i64 (rtD cx cy cd ch cc ls), .int .i64 (rtH cx cy cd ch cc ls), .int .i64 (rtC cx cy cd ch cc ls)] ∧ OwnI w18 w8.heap.size (.slice a7 ((rtL cx cy cd ch cc ls).length) c8) (markI (rtL cx cy cd ch cc ls) 1 ((rtL cx cy cd ch cc ls).length)) ∧ Blk w18 X9 [.int .i64 (rtX cx cy cd ch cc ls), .int .i64 (rtY cx cy cd ch cc ls), .int .i64 (rtD cx cy cd ch cc ls), .int .i64 (rtH cx cy cd ch cc ls), .int .i64 (rtC cx cy cd ch cc ls)]) := hide ⟨below_only (unhide K).1 on (by have s0 := unhide S0; have s1 := unhide S1; have s2 := unhide S2; have s3 := unhide S3; have s4 := unhide S4; have s5 := unhide S5; have s6 := unhide S6; have s7 := unhide S7; have s8 := unhide S8; have s9 := unhide S9; have s10 := unhide S10; have s11 := unhide S11; have s12 := unhide S12; have s13 := unhide S13; have s14 := unhide S14; have s15 := unhide S15; have s16 := unhide S16; have s17 := unhide S17; have s18 := unhide S18; have s19 := unhide S19; have s20 := unhide S20; have s21 := unhide S21; omega) (Nat.le_refl _), (unhide K).2.1.only on (by have s0 := unhide S0; have s1 := unhide S1; have s2 := unhide S2; have s3 := unhide S3; have s4 := unhide S4; have s5 := unhide S5; have s6 := unhide S6; have s7 := unhide S7; have s8 := unhide S8; have s9 := unhide S9; have s10 := unhide S10; have s11 := unhide S11; have s12 := unhide S12; have s13 := unhide S13; have s14 := unhide S14; have s15 := unhide S15; have s16 := unhide S16; have s17 := unhide S17; have s18 := unhide S18; have s19 := unhide S19; have s20 := unhide S20; have s21 := unhide S21; omega), (unhide K).2.2.1.only on (fun g hg => by have := (unhide LW1) g hg; have s0 := unhide S0; have s1 := unhide S1; have s2 := unhide S2; have s3 := unhide S3; have s4 := unhide S4; have s5 := unhide S5; have s6 := unhide S6; have s7 := unhide S7; have s8 := unhide S8; have s9 := unhide S9; have s10 := unhide S10; have s11 := unhide S11; have s12 := unhide S12; have s13 := unhide S13; have s14 := unhide S14; have s15 := unhide S15; have s16 := unhide S16; have s17 := unhide S17; have s18 := unhide S18; have s19 := unhide S19; have s20 := unhide S20; have s21 := unhide S21; omega), (unhide K).2.2.2.1.only on (by have s0 := unhide S0; have s1 := unhide S1; have s2 := unhide S2; have s3 := unhide S3; have s4 := unhide S4; have s5 := unhide S5; have s6 := unhide S6; have s7 := unhide S7; have s8 := unhide S8; have s9 := unhide S9; have s10 := unhide S10; have s11 := unhide S11; have s12 := unhide S12; have s13 := unhide S13; have s14 := unhide S14; have s15 := unhide S15; have s16 := unhide S16; have s17 := unhide S17; have s18 := unhide S18; have s19 := unhide S19; have s20 := unhide S20; have s21 := unhide S21; omega), om, (unhide K).2.2.2.2.2.only on (by have s0 := unhide S0; have s1 := unhide S1; have s2 := unhide S2; have s3 := unhide S3; have s4 := unhide S4; have s5 := unhide S5; have s6 := unhide S6; have s7 := unhide S7; have s8 := unhide S8; have s9 := unhide S9; have s10 := unhide S10; have s11 := unhide S11; have s12 := unhide S12; have s13 := unhide S13; have s14 := unhide S14; have s15 := unhide S15; have s16 := unhide S16; have s17 := unhide S17; have s18 := unhide S18; have s19 := unhide S19; have s20 := unhide S20; have s21 := unhide S21; omega)⟩
  clear KEPT om on gr
  have KEPT : Hid (∀ W u3, (Below w.heap.size w W ∧ Blk W w.heap.size [.int .i64 cx, .int .i64 cy, .int .i64 cd, .int .i64 ch, .int .i64 cc] ∧ OwnI W w4.heap.size (.slice a3 ((rtL cx cy cd ch cc ls).length) c4) (rtL cx cy cd ch cc ls) ∧ Blk W X5 [.int .i64 (rtX cx cy cd ch cc ls), .int .i64 (rtY cx cy cd ch cc ls), .int .i64 (rtD cx cy cd ch cc ls), .int .i64 (rtH cx cy cd ch cc ls), .int .i64 (rtC cx cy cd ch cc ls)] ∧ OwnI W w8.heap.size (.slice a7 ((rtL cx cy cd ch cc ls).length) c8) (markI (rtL cx cy cd ch cc ls) 1 ((rtL cx cy cd ch cc ls).length)) ∧ Blk W X9 [.int .i64 (rtX cx cy cd ch cc ls), .int .i64 (rtY cx cy cd ch cc ls), .int .i64 (rtD cx cy cd ch cc ls), .int .i64 (rtH cx cy cd ch cc ls), .int .i64 (rtC cx cy cd ch cc ls)]) → Below W.heap.size W u3 → (Below w.heap.size w u3 ∧ Blk u3 w.heap.size [.int .i64 cx, .int .i64 cy, .int .i64 cd, .int .i64 ch, .int .i64 cc] ∧ OwnI u3 w4.heap.size (.slice a3 ((rtL cx cy cd ch cc ls).length) c4) (rtL cx cy cd ch cc ls) ∧ Blk u3 X5 [.int .i64 (rtX cx cy cd ch cc ls), .int .i64 (rtY cx cy cd ch cc ls), .int .i64 (rtD cx cy cd ch cc ls), .int .i64 (rtH cx cy cd ch cc ls), .int .i64 (rtC cx cy cd ch cc ls)] ∧ OwnI u3 w8.heap.size (.slice a7 ((rtL cx cy cd ch cc ls).length) c8) (markI (rtL cx cy cd ch cc ls) 1 ((rtL cx cy cd ch cc ls).length)) ∧ Blk u3 X9 [.int .i64 (rtX cx cy cd ch cc ls), .int .i64 (rtY cx cy cd ch cc ls), .int .i64 (rtD cx cy cd ch cc ls), .int .i64 (rtH cx cy cd ch cc ls), .int .i64 (rtC cx cy cd ch cc ls)])) := hide (fun W u3 h b => ⟨h.1.trans (b.mono h.1.size), h.2.1.below b, h.2.2.1.below b, h.2.2.2.1.below b, h.2.2.2.2.1.below b, h.2.2.2.2.2.below b⟩)
  have mPp0 : w18.cell? ⟨w.heap.size, 0, none⟩ = some (.int .i64 cx) := (unhide K).2.1.c 0 (by simp)
  have mPp1 : w18.cell? ⟨w.heap.size, 1, none⟩ = some (.int .i64 cy) := (unhide K).2.1.c 1 (by simp)
  have mPp2 : w18.cell? ⟨w.heap.size, 2, none⟩ = some (.int .i64 cd) := (unhide K).2.1.c 2 (by simp)
  have mPp3 : w18.cell? ⟨w.heap.size, 3, none⟩ = some (.int .i64 ch) := (unhide K).2.1.c 3 (by simp)
  have mPp4 : w18.cell? ⟨w.heap.size, 4, none⟩ = some (.int .i64 cc) := (unhide K).2.1.c 4 (by simp)
  have mQWp00 : w18.cell? ⟨X5, 0, none⟩ = some (.int .i64 (rtX cx cy cd ch cc ls)) := (unhide K).2.2.2.1.c 0 (by simp)
  have mQWp01 : w18.cell? ⟨X5, 1, none⟩ = some (.int .i64 (rtY cx cy cd ch cc ls)) := (unhide K).2.2.2.1.c 1 (by simp)
  have mQWp02 : w18.cell? ⟨X5, 2, none⟩ = some (.int .i64 (rtD cx cy cd ch cc ls)) := (unhide K).2.2.2.1.c 2 (by simp)
  have mQWp03 : w18.cell? ⟨X5, 3, none⟩ = some (.int .i64 (rtH cx cy cd ch cc ls)) := (unhide K).2.2.2.1.c 3 (by simp)
  have mQWp04 : w18.cell? ⟨X5, 4, none⟩ = some (.int .i64 (rtC cx cy cd ch cc ls)) := (unhide K).2.2.2.1.c 4 (by simp)
  have mQGp00 : w18.cell? ⟨X9, 0, none⟩ = some (.int .i64 (rtX cx cy cd ch cc ls)) := (unhide K).2.2.2.2.2.c 0 (by simp)
  have mQGp01 : w18.cell? ⟨X9, 1, none⟩ = some (.int .i64 (rtY cx cy cd ch cc ls)) := (unhide K).2.2.2.2.2.c 1 (by simp)
  have mQGp02 : w18.cell? ⟨X9, 2, none⟩ = some (.int .i64 (rtD cx cy cd ch cc ls)) := (unhide K).2.2.2.2.2.c 2 (by simp)
  have mQGp03 : w18.cell? ⟨X9, 3, none⟩ = some (.int .i64 (rtH cx cy cd ch cc ls)) := (unhide K).2.2.2.2.2.c 3 (by simp)
  have mQGp04 : w18.cell? ⟨X9, 4, none⟩ = some (.int .i64 (rtC cx cy cd ch cc ls)) := (unhide K).2.2.2.2.2.c 4 (by simp)
  go_wp2_with fail
  clear mPp0 mPp1 mPp2 mPp3 mPp4 mQWp00 mQWp01 mQWp02 mQWp03 mQWp04 mQGp00 mQGp01 mQGp02 mQGp03 mQGp04
  refine (heldIntS_any _ _ _ _ _ 1 _ (unhide K).2.2.2.2.1 (rfl) (by have := hsm; omega) (by omega) (by omega)).mono ?_
  rintro x w19 ⟨rfl, hw⟩
  have b : Below w18.heap.size w18 w19 := by rw [hw]; exact Below.refl _ _
  clear hw
  have S22 : Hid (w18.heap.size ≤ w19.heap.size) := hide b.size
  have K : Hid (Below w.heap.size w w19 ∧ Blk w19 w.heap.size [.int .i64 cx, .int .i64 cy, .int .i64 cd, .int .i64 ch, .int .i64 cc] ∧ OwnI w19 w4.heap.size (.slice a3 ((rtL cx cy cd ch cc ls).length) c4) (rtL cx cy cd ch cc ls) ∧ Blk w19 X5 [.int .i64 (rtX cx cy cd ch cc ls), .int .i64 (rtY cx cy cd ch cc ls), .int .i64 (rtD cx cy cd ch cc ls), .int .i64 (rtH cx cy cd ch cc ls), .int .i64 (rtC cx cy cd ch cc ls)] ∧ OwnI w19 w8.heap.size (.slice a7 ((rtL cx cy cd ch cc ls).length) c8) (markI (rtL cx cy cd ch cc ls) 1 ((rtL cx cy cd ch cc ls).length)) ∧ Blk w19 X9 [.int .i64 (rtX cx cy cd ch cc ls), .int .i64 (rtY cx cy cd ch cc ls), .int .i64 (rtD cx cy cd ch cc ls), .int .i64 (rtH cx cy cd ch cc ls), .int .i64 (rtC cx cy cd ch cc ls)]) := hide ((unhide KEPT) _ _ (unhide K) b)
  clear b
  have nq19 : ¬ (1 + ((rtL cx cy cd ch cc ls).length : Int) < 0) := by omega
  have nn19 : (1 + ((rtL cx cy cd ch cc ls).length : Int) != 1 + ((rtL cx cy cd ch cc ls).length : Int)) = false := by simp
  have mPp0 : w19.cell? ⟨w.heap.size, 0, none⟩ = some (.int .i64 cx) := (unhide K).2.1.c 0 (by simp)
  have mPp1 : w19.cell? ⟨w.heap.size, 1, none⟩ = some (.int .i64 cy) := (unhide K).2.1.c 1 (by simp)
  have mPp2 : w19.cell? ⟨w.heap.size, 2, none⟩ = some (.int .i64 cd) := (unhide K).2.1.c 2 (by simp)
  have mPp3 : w19.cell? ⟨w.heap.size, 3, none⟩ = some (.int .i64 ch) := (unhide K).2.1.c 3 (by simp)
  have mPp4 : w19.cell? ⟨w.heap.size, 4, none⟩ = some (.int .i64 cc) := (unhide K).2.1.c 4 (by simp)
  have mQWp00 : w19.cell? ⟨X5, 0, none⟩ = some (.int .i64 (rtX cx cy cd ch cc ls)) := (unhide K).2.2.2.1.c 0 (by simp)
  have mQWp01 : w19.cell? ⟨X5, 1, none⟩ = some (.int .i64 (rtY cx cy cd ch cc ls)) := (unhide K).2.2.2.1.c 1 (by simp)
  have mQWp02 : w19.cell? ⟨X5, 2, none⟩ = some (.int .i64 (rtD cx cy cd ch cc ls)) := (unhide K).2.2.2.1.c 2 (by simp)
  have mQWp03 : w19.cell? ⟨X5, 3, none⟩ = some (.int .i64 (rtH cx cy cd ch cc ls)) := (unhide K).2.2.2.1.c 3 (by simp)
  have mQWp04 : w19.cell? ⟨X5, 4, none⟩ = some (.int .i64 (rtC cx cy cd ch cc ls)) := (unhide K).2.2.2.1.c 4 (by simp)
  have mQGp00 : w19.cell? ⟨X9, 0, none⟩ = some (.int .i64 (rtX cx cy cd ch cc ls)) := (unhide K).2.2.2.2.2.c 0 (by simp)
  have mQGp01 : w19.cell? ⟨X9, 1, none⟩ = some (.int .i64 (rtY cx cy cd ch cc ls)) := (unhide K).2.2.2.2.2.c 1 (by simp)
  have mQGp02 : w19.cell? ⟨X9, 2, none⟩ = some (.int .i64 (rtD cx cy cd ch cc ls)) := (unhide K).2.2.2.2.2.c 2 (by simp)
  have mQGp03 : w19.cell? ⟨X9, 3, none⟩ = some (.int .i64 (rtH cx cy cd ch cc ls)) := (unhide K).2.2.2.2.2.c 3 (by simp)
  have mQGp04 : w19.cell? ⟨X9, 4, none⟩ = some (.int .i64 (rtC cx cy cd ch cc ls)) := (unhide K).2.2.2.2.2.c 4 (by simp)
  go_wp2_with fail
  clear mPp0 mPp1 mPp2 mPp3 mPp4 mQWp00 mQWp01 mQWp02 mQWp03 mQWp04 mQGp00 mQGp01 mQGp02 mQGp03 mQGp04
  refine (toCraft_any _ _ _ _ _ _).mono ?_
  rintro x w20 ⟨rfl, b⟩
  have S23 : Hid (w19.heap.size ≤ w20.heap.size) := hide b.size
  have K : Hid (Below w.heap.size w w20 ∧ Blk w20 w.heap.size [.int .i64 cx, .int .i64 cy, .int .i64 cd, .int .i64 ch, .int .i64 cc] ∧ OwnI w20 w4.heap.size (.slice a3 ((rtL cx cy cd ch cc ls).length) c4) (rtL cx cy cd ch cc ls) ∧ Blk w20 X5 [.int .i64 (rtX cx cy cd ch cc ls), .int .i64 (rtY cx cy cd ch cc ls), .int .i64 (rtD cx cy cd ch cc ls), .int .i64 (rtH cx cy cd ch cc ls), .int .i64 (rtC cx cy cd ch cc ls)] ∧ OwnI w20 w8.heap.size (.slice a7 ((rtL cx cy cd ch cc ls).length) c8) (markI (rtL cx cy cd ch cc ls) 1 ((rtL cx cy cd ch cc ls).length)) ∧ Blk w20 X9 [.int .i64 (rtX cx cy cd ch cc ls), .int .i64 (rtY cx cy cd ch cc ls), .int .i64 (rtD cx cy cd ch cc ls), .int .i64 (rtH cx cy cd ch cc ls), .int .i64 (rtC cx cy cd ch cc ls)]) := hide ((unhide KEPT) _ _ (unhide K) b)
  clear b
  have mPp0 : w20.cell? ⟨w.heap.size, 0, none⟩ = some (.int .i64 cx) := (unhide K).2.1.c 0 (by simp)
  have mPp1 : w20.cell? ⟨w.heap.size, 1, none⟩ = some (.int .i64 cy) := (unhide K).2.1.c 1 (by simp)
  have mPp2 : w20.cell? ⟨w.heap.size, 2, none⟩ = some (.int .i64 cd) := (unhide K).2.1.c 2 (by simp)
  have mPp3 : w20.cell? ⟨w.heap.size, 3, none⟩ = some (.int .i64 ch) := (unhide K).2.1.c 3 (by simp)
  have mPp4 : w20.cell? ⟨w.heap.size, 4, none⟩ = some (.int .i64 cc) := (unhide K).2.1.c 4 (by simp)
  have mQWp00 : w20.cell? ⟨X5, 0, none⟩ = some (.int .i64 (rtX cx cy cd ch cc ls)) := (unhide K).2.2.2.1.c 0 (by simp)
  have mQWp01 : w20.cell? ⟨X5, 1, none⟩ = some (.int .i64 (rtY cx cy cd ch cc ls)) := (unhide K).2.2.2.1.c 1 (by simp)
  have mQWp02 : w20.cell? ⟨X5, 2, none⟩ = some (.int .i64 (rtD cx cy cd ch cc ls)) := (unhide K).2.2.2.1.c 2 (by simp)
  have mQWp03 : w20.cell? ⟨X5, 3, none⟩ = some (.int .i64 (rtH cx cy cd ch cc ls)) := (unhide K).2.2.2.1.c 3 (by simp)
  have mQWp04 : w20.cell? ⟨X5, 4, none⟩ = some (.int .i64 (rtC cx cy cd ch cc ls)) := (unhide K).2.2.2.1.c 4 (by simp)
  have mQGp00 : w20.cell? ⟨X9, 0, none⟩ = some (.int .i64 (rtX cx cy cd ch cc ls)) := (unhide K).2.2.2.2.2.c 0 (by simp)
  have mQGp01 : w20.cell? ⟨X9, 1, none⟩ = some (.int .i64 (rtY cx cy cd ch cc ls)) := (unhide K).2.2.2.2.2.c 1 (by simp)
  have mQGp02 : w20.cell? ⟨X9, 2, none⟩ = some (.int .i64 (rtD cx cy cd ch cc ls)) := (unhide K).2.2.2.2.2.c 2 (by simp)
  have mQGp03 : w20.cell? ⟨X9, 3, none⟩ = some (.int .i64 (rtH cx cy cd ch cc ls)) := (unhide K).2.2.2.2.2.c 3 (by simp)
  have mQGp04 : w20.cell? ⟨X9, 4, none⟩ = some (.int .i64 (rtC cx cy cd ch cc ls)) := (unhide K).2.2.2.2.2.c 4 (by simp)
  go_wp2_with fail
  clear mPp0 mPp1 mPp2 mPp3 mPp4 mQWp00 mQWp01 mQWp02 mQWp03 mQWp04 mQGp00 mQGp01 mQGp02 mQGp03 mQGp04
  obtain ⟨g11, hg11⟩ : ∃ G, w20.heap.size = G := ⟨_, rfl⟩
  refine (toLegS_own _ _ _ _ _ ((unhide Rl).below (unhide K).1) hl1).mono ?_
  rintro x w21 ⟨rfl, oc, b⟩
  rw [hg11] at oc ⊢
  have Bg11 := hide hg11
  clear hg11
  have LT21 : Hid (∀ g, (Value.slice (some ⟨g11, 0, none⟩) ll1 ll1).ownBlock = some g → w20.heap.size ≤ g ∧ g < w21.heap.size) := hide (by have e := unhide Bg11; have l := oc.lies; rw [← e] at l ⊢; exact l)
  have S24 : Hid (w20.heap.size ≤ w21.heap.size) := hide b.size
  have K : Hid (Below w.heap.size w w21 ∧ Blk w21 w.heap.size [.int .i64 cx, .int .i64 cy, .int .i64 cd, .int .i64 ch, .int .i64 cc] ∧ OwnI w21 w4.heap.size (.slice a3 ((rtL cx cy cd ch cc ls).length) c4) (rtL cx cy cd ch cc ls) ∧ Blk w21 X5 [.int .i64 (rtX cx cy cd ch cc ls), .int .i64 (rtY cx cy cd ch cc ls), .int .i64 (rtD cx cy cd ch cc ls), .int .i64 (rtH cx cy cd ch cc ls), .int .i64 (rtC cx cy cd ch cc ls)] ∧ OwnI w21 w8.heap.size (.slice a7 ((rtL cx cy cd ch cc ls).length) c8) (markI (rtL cx cy cd ch cc ls) 1 ((rtL cx cy cd ch cc ls).length)) ∧ Blk w21 X9 [.int .i64 (rtX cx cy cd ch cc ls), .int .i64 (rtY cx cy cd ch cc ls), .int .i64 (rtD cx cy cd ch cc ls), .int .i64 (rtH cx cy cd ch cc ls), .int .i64 (rtC cx cy cd ch cc ls)]) := hide ((unhide KEPT) _ _ (unhide K) b)
  have K : Hid (Below w.heap.size w w21 ∧ Blk w21 w.heap.size [.int .i64 cx, .int .i64 cy, .int .i64 cd, .int .i64 ch, .int .i64 cc] ∧ OwnI w21 w4.heap.size (.slice a3 ((rtL cx cy cd ch cc ls).length) c4) (rtL cx cy cd ch cc ls) ∧ Blk w21 X5 [.int .i64 (rtX cx cy cd ch cc ls), .int .i64 (rtY cx cy cd ch cc ls), .int .i64 (rtD cx cy cd ch cc ls), .int .i64 (rtH cx cy cd ch cc ls), .int .i64 (rtC cx cy cd ch cc ls)] ∧ OwnI w21 w8.heap.size (.slice a7 ((rtL cx cy cd ch cc ls).length) c8) (markI (rtL cx cy cd ch cc ls) 1 ((rtL cx cy cd ch cc ls).length)) ∧ Blk w21 X9 [.int .i64 (rtX cx cy cd ch cc ls), .int .i64 (rtY cx cy cd ch cc ls), .int .i64 (rtD cx cy cd ch cc ls), .int .i64 (rtH cx cy cd ch cc ls), .int .i64 (rtC cx cy cd ch cc ls)] ∧ OwnE 4 lgC w21 w20.heap.size 30 (.slice (some ⟨g11, 0, none⟩) ll1 ll1) ls) := hide ⟨(unhide K).1, (unhide K).2.1, (unhide K).2.2.1, (unhide K).2.2.2.1, (unhide K).2.2.2.2.1, (unhide K).2.2.2.2.2, (by have e := unhide Bg11; rw [e]; exact oc)⟩
  clear KEPT oc b
  have KEPT : Hid (∀ W u3, (Below w.heap.size w W ∧ Blk W w.heap.size [.int .i64 cx, .int .i64 cy, .int .i64 cd, .int .i64 ch, .int .i64 cc] ∧ OwnI W w4.heap.size (.slice a3 ((rtL cx cy cd ch cc ls).length) c4) (rtL cx cy cd ch cc ls) ∧ Blk W X5 [.int .i64 (rtX cx cy cd ch cc ls), .int .i64 (rtY cx cy cd ch cc ls), .int .i64 (rtD cx cy cd ch cc ls), .int .i64 (rtH cx cy cd ch cc ls), .int .i64 (rtC cx cy cd ch cc ls)] ∧ OwnI W w8.heap.size (.slice a7 ((rtL cx cy cd ch cc ls).length) c8) (markI (rtL cx cy cd ch cc ls) 1 ((rtL cx cy cd ch cc ls).length)) ∧ Blk W X9 [.int .i64 (rtX cx cy cd ch cc ls), .int .i64 (rtY cx cy cd ch cc ls), .int .i64 (rtD cx cy cd ch cc ls), .int .i64 (rtH cx cy cd ch cc ls), .int .i64 (rtC cx cy cd ch cc ls)] ∧ OwnE 4 lgC W w20.heap.size 30 (.slice (some ⟨g11, 0, none⟩) ll1 ll1) ls) → Below W.heap.size W u3 → (Below w.heap.size w u3 ∧ Blk u3 w.heap.size [.int .i64 cx, .int .i64 cy, .int .i64 cd, .int .i64 ch, .int .i64 cc] ∧ OwnI u3 w4.heap.size (.slice a3 ((rtL cx cy cd ch cc ls).length) c4) (rtL cx cy cd ch cc ls) ∧ Blk u3 X5 [.int .i64 (rtX cx cy cd ch cc ls), .int .i64 (rtY cx cy cd ch cc ls), .int .i64 (rtD cx cy cd ch cc ls), .int .i64 (rtH cx cy cd ch cc ls), .int .i64 (rtC cx cy cd ch cc ls)] ∧ OwnI u3 w8.heap.size (.slice a7 ((rtL cx cy cd ch cc ls).length) c8) (markI (rtL cx cy cd ch cc ls) 1 ((rtL cx cy cd ch cc ls).length)) ∧ Blk u3 X9 [.int .i64 (rtX cx cy cd ch cc ls), .int .i64 (rtY cx cy cd ch cc ls), .int .i64 (rtD cx cy cd ch cc ls), .int .i64 (rtH cx cy cd ch cc ls), .int .i64 (rtC cx cy cd ch cc ls)] ∧ OwnE 4 lgC u3 w20.heap.size 30 (.slice (some ⟨g11, 0, none⟩) ll1 ll1) ls)) := hide (fun W u3 h b => ⟨h.1.trans (b.mono h.1.size), h.2.1.below b, h.2.2.1.below b, h.2.2.2.1.below b, h.2.2.2.2.1.below b, h.2.2.2.2.2.1.below b, h.2.2.2.2.2.2.below b⟩)
  have mPp0 : w21.cell? ⟨w.heap.size, 0, none⟩ = some (.int .i64 cx) := (unhide K).2.1.c 0 (by simp)
  have mPp1 : w21.cell? ⟨w.heap.size, 1, none⟩ = some (.int .i64 cy) := (unhide K).2.1.c 1 (by simp)
  have mPp2 : w21.cell? ⟨w.heap.size, 2, none⟩ = some (.int .i64 cd) := (unhide K).2.1.c 2 (by simp)
  have mPp3 : w21.cell? ⟨w.heap.size, 3, none⟩ = some (.int .i64 ch) := (unhide K).2.1.c 3 (by simp)
  have mPp4 : w21.cell? ⟨w.heap.size, 4, none⟩ = some (.int .i64 cc) := (unhide K).2.1.c 4 (by simp)
  have mQWp00 : w21.cell? ⟨X5, 0, none⟩ = some (.int .i64 (rtX cx cy cd ch cc ls)) := (unhide K).2.2.2.1.c 0 (by simp)
  have mQWp01 : w21.cell? ⟨X5, 1, none⟩ = some (.int .i64 (rtY cx cy cd ch cc ls)) := (unhide K).2.2.2.1.c 1 (by simp)
  have mQWp02 : w21.cell? ⟨X5, 2, none⟩ = some (.int .i64 (rtD cx cy cd ch cc ls)) := (unhide K).2.2.2.1.c 2 (by simp)
  have mQWp03 : w21.cell? ⟨X5, 3, none⟩ = some (.int .i64 (rtH cx cy cd ch cc ls)) := (unhide K).2.2.2.1.c 3 (by simp)
  have mQWp04 : w21.cell? ⟨X5, 4, none⟩ = some (.int .i64 (rtC cx cy cd ch cc ls)) := (unhide K).2.2.2.1.c 4 (by simp)
  have mQGp00 : w21.cell? ⟨X9, 0, none⟩ = some (.int .i64 (rtX cx cy cd ch cc ls)) := (unhide K).2.2.2.2.2.1.c 0 (by simp)
  have mQGp01 : w21.cell? ⟨X9, 1, none⟩ = some (.int .i64 (rtY cx cy cd ch cc ls)) := (unhide K).2.2.2.2.2.1.c 1 (by simp)
  have mQGp02 : w21.cell? ⟨X9, 2, none⟩ = some (.int .i64 (rtD cx cy cd ch cc ls)) := (unhide K).2.2.2.2.2.1.c 2 (by simp)
  have mQGp03 : w21.cell? ⟨X9, 3, none⟩ = some (.int .i64 (rtH cx cy cd ch cc ls)) := (unhide K).2.2.2.2.2.1.c 3 (by simp)
  have mQGp04 : w21.cell? ⟨X9, 4, none⟩ = some (.int .i64 (rtC cx cy cd ch cc ls)) := (unhide K).2.2.2.2.2.1.c 4 (by simp)
  go_wp2_with fail
  clear mPp0 mPp1 mPp2 mPp3 mPp4 mQWp00 mQWp01 mQWp02 mQWp03 mQWp04 mQGp00 mQGp01 mQGp02 mQGp03 mQGp04
  refine (implFlyRoute_any _ _ _ _ _ _ _ _ _ _ (unhide K).2.2.2.2.2.2.row ((unhide HGS).below glt (unhide K).1)).mono ?_
  rintro x w22 ⟨a12, c13, rfl, oH_1, b⟩
  have LH1 : Hid (∀ g, (Value.slice a12 ((rtL cx cy cd ch cc ls).length) c13).ownBlock = some g → w21.heap.size ≤ g ∧ g < w22.heap.size) := hide oH_1.lies
  have S25 : Hid (w21.heap.size ≤ w22.heap.size) := hide b.size
  have K : Hid (Below w.heap.size w w22 ∧ Blk w22 w.heap.size [.int .i64 cx, .int .i64 cy, .int .i64 cd, .int .i64 ch, .int .i64 cc] ∧ OwnI w22 w4.heap.size (.slice a3 ((rtL cx cy cd ch cc ls).length) c4) (rtL cx cy cd ch cc ls) ∧ Blk w22 X5 [.int .i64 (rtX cx cy cd ch cc ls), .int .i64 (rtY cx cy cd ch cc ls), .int .i64 (rtD cx cy cd ch cc ls), .int .i64 (rtH cx cy cd ch cc ls), .int .i64 (rtC cx cy cd ch cc ls)] ∧ OwnI w22 w8.heap.size (.slice a7 ((rtL cx cy cd ch cc ls).length) c8) (markI (rtL cx cy cd ch cc ls) 1 ((rtL cx cy cd ch cc ls).length)) ∧ Blk w22 X9 [.int .i64 (rtX cx cy cd ch cc ls), .int .i64 (rtY cx cy cd ch cc ls), .int .i64 (rtD cx cy cd ch cc ls), .int .i64 (rtH cx cy cd ch cc ls), .int .i64 (rtC cx cy cd ch cc ls)] ∧ OwnE 4 lgC w22 w20.heap.size 30 (.slice (some ⟨g11, 0, none⟩) ll1 ll1) ls) := hide ((unhide KEPT) _ _ (unhide K) b)
  have K : Hid (Below w.heap.size w w22 ∧ Blk w22 w.heap.size [.int .i64 cx, .int .i64 cy, .int .i64 cd, .int .i64 ch, .int .i64 cc] ∧ OwnI w22 w4.heap.size (.slice a3 ((rtL cx cy cd ch cc ls).length) c4) (rtL cx cy cd ch cc ls) ∧ Blk w22 X5 [.int .i64 (rtX cx cy cd ch cc ls), .int .i64 (rtY cx cy cd ch cc ls), .int .i64 (rtD cx cy cd ch cc ls), .int .i64 (rtH cx cy cd ch cc ls), .int .i64 (rtC cx cy cd ch cc ls)] ∧ OwnI w22 w8.heap.size (.slice a7 ((rtL cx cy cd ch cc ls).length) c8) (markI (rtL cx cy cd ch cc ls) 1 ((rtL cx cy cd ch cc ls).length)) ∧ Blk w22 X9 [.int .i64 (rtX cx cy cd ch cc ls), .int .i64 (rtY cx cy cd ch cc ls), .int .i64 (rtD cx cy cd ch cc ls), .int .i64 (rtH cx cy cd ch cc ls), .int .i64 (rtC cx cy cd ch cc ls)] ∧ OwnE 4 lgC w22 w20.heap.size 30 (.slice (some ⟨g11, 0, none⟩) ll1 ll1) ls ∧ OwnI w22 w21.heap.size (.slice a12 ((rtL cx cy cd ch cc ls).length) c13) (rtL cx cy cd ch cc ls)) := hide ⟨(unhide K).1, (unhide K).2.1, (unhide K).2.2.1, (unhide K).2.2.2.1, (unhide K).2.2.2.2.1, (unhide K).2.2.2.2.2.1, (unhide K).2.2.2.2.2.2, oH_1⟩
  clear KEPT
  have KEPT : Hid (∀ W u3, (Below w.heap.size w W ∧ Blk W w.heap.size [.int .i64 cx, .int .i64 cy, .int .i64 cd, .int .i64 ch, .int .i64 cc] ∧ OwnI W w4.heap.size (.slice a3 ((rtL cx cy cd ch cc ls).length) c4) (rtL cx cy cd ch cc ls) ∧ Blk W X5 [.int .i64 (rtX cx cy cd ch cc ls), .int .i64 (rtY cx cy cd ch cc ls), .int .i64 (rtD cx cy cd ch cc ls), .int .i64 (rtH cx cy cd ch cc ls), .int .i64 (rtC cx cy cd ch cc ls)] ∧ OwnI W w8.heap.size (.slice a7 ((rtL cx cy cd ch cc ls).length) c8) (markI (rtL cx cy cd ch cc ls) 1 ((rtL cx cy cd ch cc ls).length)) ∧ Blk W X9 [.int .i64 (rtX cx cy cd ch cc ls), .int .i64 (rtY cx cy cd ch cc ls), .int .i64 (rtD cx cy cd ch cc ls), .int .i64 (rtH cx cy cd ch cc ls), .int .i64 (rtC cx cy cd ch cc ls)] ∧ OwnE 4 lgC W w20.heap.size 30 (.slice (some ⟨g11, 0, none⟩) ll1 ll1) ls ∧ OwnI W w21.heap.size (.slice a12 ((rtL cx cy cd ch cc ls).length) c13) (rtL cx cy cd ch cc ls)) → Below W.heap.size W u3 → (Below w.heap.size w u3 ∧ Blk u3 w.heap.size [.int .i64 cx, .int .i64 cy, .int .i64 cd, .int .i64 ch, .int .i64 cc] ∧ OwnI u3 w4.heap.size (.slice a3 ((rtL cx cy cd ch cc ls).length) c4) (rtL cx cy cd ch cc ls) ∧ Blk u3 X5 [.int .i64 (rtX cx cy cd ch cc ls), .int .i64 (rtY cx cy cd ch cc ls), .int .i64 (rtD cx cy cd ch cc ls), .int .i64 (rtH cx cy cd ch cc ls), .int .i64 (rtC cx cy cd ch cc ls)] ∧ OwnI u3 w8.heap.size (.slice a7 ((rtL cx cy cd ch cc ls).length) c8) (markI (rtL cx cy cd ch cc ls) 1 ((rtL cx cy cd ch cc ls).length)) ∧ Blk u3 X9 [.int .i64 (rtX cx cy cd ch cc ls), .int .i64 (rtY cx cy cd ch cc ls), .int .i64 (rtD cx cy cd ch cc ls), .int .i64 (rtH cx cy cd ch cc ls), .int .i64 (rtC cx cy cd ch cc ls)] ∧ OwnE 4 lgC u3 w20.heap.size 30 (.slice (some ⟨g11, 0, none⟩) ll1 ll1) ls ∧ OwnI u3 w21.heap.size (.slice a12 ((rtL cx cy cd ch cc ls).length) c13) (rtL cx cy cd ch cc ls))) := hide (fun W u3 h b => ⟨h.1.trans (b.mono h.1.size), h.2.1.below b, h.2.2.1.below b, h.2.2.2.1.below b, h.2.2.2.2.1.below b, h.2.2.2.2.2.1.below b, h.2.2.2.2.2.2.1.below b, h.2.2.2.2.2.2.2.below b⟩)
  clear oH_1
  clear b
  have K : Hid (Below w.heap.size w w22 ∧ Blk w22 w.heap.size [.int .i64 cx, .int .i64 cy, .int .i64 cd, .int .i64 ch, .int .i64 cc] ∧ OwnI w22 w4.heap.size (.slice a3 ((rtL cx cy cd ch cc ls).length) c4) (rtL cx cy cd ch cc ls) ∧ Blk w22 X5 [.int .i64 (rtX cx cy cd ch cc ls), .int .i64 (rtY cx cy cd ch cc ls), .int .i64 (rtD cx cy cd ch cc ls), .int .i64 (rtH cx cy cd ch cc ls), .int .i64 (rtC cx cy cd ch cc ls)] ∧ OwnI w22 w8.heap.size (.slice a7 ((rtL cx cy cd ch cc ls).length) c8) (markI (rtL cx cy cd ch cc ls) 1 ((rtL cx cy cd ch cc ls).length)) ∧ Blk w22 X9 [.int .i64 (rtX cx cy cd ch cc ls), .int .i64 (rtY cx cy cd ch cc ls), .int .i64 (rtD cx cy cd ch cc ls), .int .i64 (rtH cx cy cd ch cc ls), .int .i64 (rtC cx cy cd ch cc ls)] ∧ OwnI w22 w21.heap.size (.slice a12 ((rtL cx cy cd ch cc ls).length) c13) (rtL cx cy cd ch cc ls)) := hide ⟨(unhide K).1, (unhide K).2.1, (unhide K).2.2.1, (unhide K).2.2.2.1, (unhide K).2.2.2.2.1, (unhide K).2.2.2.2.2.1, (unhide K).2.2.2.2.2.2.2⟩
  clear KEPT
  have KEPT : Hid (∀ W u3, (Below w.heap.size w W ∧ Blk W w.heap.size [.int .i64 cx, .int .i64 cy, .int .i64 cd, .int .i64 ch, .int .i64 cc] ∧ OwnI W w4.heap.size (.slice a3 ((rtL cx cy cd ch cc ls).length) c4) (rtL cx cy cd ch cc ls) ∧ Blk W X5 [.int .i64 (rtX cx cy cd ch cc ls), .int .i64 (rtY cx cy cd ch cc ls), .int .i64 (rtD cx cy cd ch cc ls), .int .i64 (rtH cx cy cd ch cc ls), .int .i64 (rtC cx cy cd ch cc ls)] ∧ OwnI W w8.heap.size (.slice a7 ((rtL cx cy cd ch cc ls).length) c8) (markI (rtL cx cy cd ch cc ls) 1 ((rtL cx cy cd ch cc ls).length)) ∧ Blk W X9 [.int .i64 (rtX cx cy cd ch cc ls), .int .i64 (rtY cx cy cd ch cc ls), .int .i64 (rtD cx cy cd ch cc ls), .int .i64 (rtH cx cy cd ch cc ls), .int .i64 (rtC cx cy cd ch cc ls)] ∧ OwnI W w21.heap.size (.slice a12 ((rtL cx cy cd ch cc ls).length) c13) (rtL cx cy cd ch cc ls)) → Below W.heap.size W u3 → (Below w.heap.size w u3 ∧ Blk u3 w.heap.size [.int .i64 cx, .int .i64 cy, .int .i64 cd, .int .i64 ch, .int .i64 cc] ∧ OwnI u3 w4.heap.size (.slice a3 ((rtL cx cy cd ch cc ls).length) c4) (rtL cx cy cd ch cc ls) ∧ Blk u3 X5 [.int .i64 (rtX cx cy cd ch cc ls), .int .i64 (rtY cx cy cd ch cc ls), .int .i64 (rtD cx cy cd ch cc ls), .int .i64 (rtH cx cy cd ch cc ls), .int .i64 (rtC cx cy cd ch cc ls)] ∧ OwnI u3 w8.heap.size (.slice a7 ((rtL cx cy cd ch cc ls).length) c8) (markI (rtL cx cy cd ch cc ls) 1 ((rtL cx cy cd ch cc ls).length)) ∧ Blk u3 X9 [.int .i64 (rtX cx cy cd ch cc ls), .int .i64 (rtY cx cy cd ch cc ls), .int .i64 (rtD cx cy cd ch cc ls), .int .i64 (rtH cx cy cd ch cc ls), .int .i64 (rtC cx cy cd ch cc ls)] ∧ OwnI u3 w21.heap.size (.slice a12 ((rtL cx cy cd ch cc ls).length) c13) (rtL cx cy cd ch cc ls))) := hide (fun W u3 h b => ⟨h.1.trans (b.mono h.1.size), h.2.1.below b, h.2.2.1.below b, h.2.2.2.1.below b, h.2.2.2.2.1.below b, h.2.2.2.2.2.1.below b, h.2.2.2.2.2.2.below b⟩)
  obtain ⟨w23, hw23⟩ : ∃ V, V = w22.alloc (Obj.cells #[.int .i64 (rtX cx cy cd ch cc ls), .int .i64 (rtY cx cy cd ch cc ls), .int .i64 (rtD cx cy cd ch cc ls), .int .i64 (rtH cx cy cd ch cc ls), .int .i64 (rtC cx cy cd ch cc ls)] 26) := ⟨_, rfl⟩
  have b : Below w22.heap.size w22 w23 := by rw [hw23]; exact bel1 _
  have kx : Blk w23 w22.heap.size [.int .i64 (rtX cx cy cd ch cc ls), .int .i64 (rtY cx cy cd ch cc ls), .int .i64 (rtD cx cy cd ch cc ls), .int .i64 (rtH cx cy cd ch cc ls), .int .i64 (rtC cx cy cd ch cc ls)] := by rw [hw23]; exact Blk.new _ _
  have S26 : Hid (w22.heap.size + 1 ≤ w23.heap.size) := hide (by rw [hw23]; simp)
  have S27 : Hid (w22.heap.size ≤ w23.heap.size) := hide b.size
  have K : Hid (Below w.heap.size w w23 ∧ Blk w23 w.heap.size [.int .i64 cx, .int .i64 cy, .int .i64 cd, .int .i64 ch, .int .i64 cc] ∧ OwnI w23 w4.heap.size (.slice a3 ((rtL cx cy cd ch cc ls).length) c4) (rtL cx cy cd ch cc ls) ∧ Blk w23 X5 [.int .i64 (rtX cx cy cd ch cc ls), .int .i64 (rtY cx cy cd ch cc ls), .int .i64 (rtD cx cy cd ch cc ls), .int .i64 (rtH cx cy cd ch cc ls), .int .i64 (rtC cx cy cd ch cc ls)] ∧ OwnI w23 w8.heap.size (.slice a7 ((rtL cx cy cd ch cc ls).length) c8) (markI (rtL cx cy cd ch cc ls) 1 ((rtL cx cy cd ch cc ls).length)) ∧ Blk w23 X9 [.int .i64 (rtX cx cy cd ch cc ls), .int .i64 (rtY cx cy cd ch cc ls), .int .i64 (rtD cx cy cd ch cc ls), .int .i64 (rtH cx cy cd ch cc ls), .int .i64 (rtC cx cy cd ch cc ls)] ∧ OwnI w23 w21.heap.size (.slice a12 ((rtL cx cy cd ch cc ls).length) c13) (rtL cx cy cd ch cc ls)) := hide ((unhide KEPT) _ _ (unhide K) b)
  have mPp0 : w23.cell? ⟨w.heap.size, 0, none⟩ = some (.int .i64 cx) := (unhide K).2.1.c 0 (by simp)
  have mPp1 : w23.cell? ⟨w.heap.size, 1, none⟩ = some (.int .i64 cy) := (unhide K).2.1.c 1 (by simp)
  have mPp2 : w23.cell? ⟨w.heap.size, 2, none⟩ = some (.int .i64 cd) := (unhide K).2.1.c 2 (by simp)
  have mPp3 : w23.cell? ⟨w.heap.size, 3, none⟩ = some (.int .i64 ch) := (unhide K).2.1.c 3 (by simp)
  have mPp4 : w23.cell? ⟨w.heap.size, 4, none⟩ = some (.int .i64 cc) := (unhide K).2.1.c 4 (by simp)
  have mQWp00 : w23.cell? ⟨X5, 0, none⟩ = some (.int .i64 (rtX cx cy cd ch cc ls)) := (unhide K).2.2.2.1.c 0 (by simp)
  have mQWp01 : w23.cell? ⟨X5, 1, none⟩ = some (.int .i64 (rtY cx cy cd ch cc ls)) := (unhide K).2.2.2.1.c 1 (by simp)
  have mQWp02 : w23.cell? ⟨X5, 2, none⟩ = some (.int .i64 (rtD cx cy cd ch cc ls)) := (unhide K).2.2.2.1.c 2 (by simp)
  have mQWp03 : w23.cell? ⟨X5, 3, none⟩ = some (.int .i64 (rtH cx cy cd ch cc ls)) := (unhide K).2.2.2.1.c 3 (by simp)
  have mQWp04 : w23.cell? ⟨X5, 4, none⟩ = some (.int .i64 (rtC cx cy cd ch cc ls)) := (unhide K).2.2.2.1.c 4 (by simp)
  have mQGp00 : w23.cell? ⟨X9, 0, none⟩ = some (.int .i64 (rtX cx cy cd ch cc ls)) := (unhide K).2.2.2.2.2.1.c 0 (by simp)
  have mQGp01 : w23.cell? ⟨X9, 1, none⟩ = some (.int .i64 (rtY cx cy cd ch cc ls)) := (unhide K).2.2.2.2.2.1.c 1 (by simp)
  have mQGp02 : w23.cell? ⟨X9, 2, none⟩ = some (.int .i64 (rtD cx cy cd ch cc ls)) := (unhide K).2.2.2.2.2.1.c 2 (by simp)
  have mQGp03 : w23.cell? ⟨X9, 3, none⟩ = some (.int .i64 (rtH cx cy cd ch cc ls)) := (unhide K).2.2.2.2.2.1.c 3 (by simp)
  have mQGp04 : w23.cell? ⟨X9, 4, none⟩ = some (.int .i64 (rtC cx cy cd ch cc ls)) := (unhide K).2.2.2.2.2.1.c 4 (by simp)
  rw [hw23] at mPp0 mPp1 mPp2 mPp3 mPp4 mQWp00 mQWp01 mQWp02 mQWp03 mQWp04 mQGp00 mQGp01 mQGp02 mQGp03 mQGp04
  obtain ⟨X14, hX14⟩ : ∃ X, w22.heap.size = X := ⟨_, rfl⟩
  rw [hX14] at kx
  have S28 : Hid (w22.heap.size = X14) := hide hX14
  have K : Hid (Below w.heap.size w w23 ∧ Blk w23 w.heap.size [.int .i64 cx, .int .i64 cy, .int .i64 cd, .int .i64 ch, .int .i64 cc] ∧ OwnI w23 w4.heap.size (.slice a3 ((rtL cx cy cd ch cc ls).length) c4) (rtL cx cy cd ch cc ls) ∧ Blk w23 X5 [.int .i64 (rtX cx cy cd ch cc ls), .int .i64 (rtY cx cy cd ch cc ls), .int .i64 (rtD cx cy cd ch cc ls), .int .i64 (rtH cx cy cd ch cc ls), .int .i64 (rtC cx cy cd ch cc ls)] ∧ OwnI w23 w8.heap.size (.slice a7 ((rtL cx cy cd ch cc ls).length) c8) (markI (rtL cx cy cd ch cc ls) 1 ((rtL cx cy cd ch cc ls).length)) ∧ Blk w23 X9 [.int .i64 (rtX cx cy cd ch cc ls), .int .i64 (rtY cx cy cd ch cc ls), .int .i64 (rtD cx cy cd ch cc ls), .int .i64 (rtH cx cy cd ch cc ls), .int .i64 (rtC cx cy cd ch cc ls)] ∧ OwnI w23 w21.heap.size (.slice a12 ((rtL cx cy cd ch cc ls).length) c13) (rtL cx cy cd ch cc ls) ∧ Blk w23 X14 [.int .i64 (rtX cx cy cd ch cc ls), .int .i64 (rtY cx cy cd ch cc ls), .int .i64 (rtD cx cy cd ch cc ls), .int .i64 (rtH cx cy cd ch cc ls), .int .i64 (rtC cx cy cd ch cc ls)]) := hide ⟨(unhide K).1, (unhide K).2.1, (unhide K).2.2.1, (unhide K).2.2.2.1, (unhide K).2.2.2.2.1, (unhide K).2.2.2.2.2.1, (unhide K).2.2.2.2.2.2, kx⟩
  clear KEPT b kx
  have KEPT : Hid (∀ W u3, (Below w.heap.size w W ∧ Blk W w.heap.size [.int .i64 cx, .int .i64 cy, .int .i64 cd, .int .i64 ch, .int .i64 cc] ∧ OwnI W w4.heap.size (.slice a3 ((rtL cx cy cd ch cc ls).length) c4) (rtL cx cy cd ch cc ls) ∧ Blk W X5 [.int .i64 (rtX cx cy cd ch cc ls), .int .i64 (rtY cx cy cd ch cc ls), .int .i64 (rtD cx cy cd ch cc ls), .int .i64 (rtH cx cy cd ch cc ls), .int .i64 (rtC cx cy cd ch cc ls)] ∧ OwnI W w8.heap.size (.slice a7 ((rtL cx cy cd ch cc ls).length) c8) (markI (rtL cx cy cd ch cc ls) 1 ((rtL cx cy cd ch cc ls).length)) ∧ Blk W X9 [.int .i64 (rtX cx cy cd ch cc ls), .int .i64 (rtY cx cy cd ch cc ls), .int .i64 (rtD cx cy cd ch cc ls), .int .i64 (rtH cx cy cd ch cc ls), .int .i64 (rtC cx cy cd ch cc ls)] ∧ OwnI W w21.heap.size (.slice a12 ((rtL cx cy cd ch cc ls).length) c13) (rtL cx cy cd ch cc ls) ∧ Blk W X14 [.int .i64 (rtX cx cy cd ch cc ls), .int .i64 (rtY cx cy cd ch cc ls), .int .i64 (rtD cx cy cd ch cc ls), .int .i64 (rtH cx cy cd ch cc ls), .int .i64 (rtC cx cy cd ch cc ls)]) → Below W.heap.size W u3 → (Below w.heap.size w u3 ∧ Blk u3 w.heap.size [.int .i64 cx, .int .i64 cy, .int .i64 cd, .int .i64 ch, .int .i64 cc] ∧ OwnI u3 w4.heap.size (.slice a3 ((rtL cx cy cd ch cc ls).length) c4) (rtL cx cy cd ch cc ls) ∧ Blk u3 X5 [.int .i64 (rtX cx cy cd ch cc ls), .int .i64 (rtY cx cy cd ch cc ls), .int .i64 (rtD cx cy cd ch cc ls), .int .i64 (rtH cx cy cd ch cc ls), .int .i64 (rtC cx cy cd ch cc ls)] ∧ OwnI u3 w8.heap.size (.slice a7 ((rtL cx cy cd ch cc ls).length) c8) (markI (rtL cx cy cd ch cc ls) 1 ((rtL cx cy cd ch cc ls).length)) ∧ Blk u3 X9 [.int .i64 (rtX cx cy cd ch cc ls), .int .i64 (rtY cx cy cd ch cc ls), .int .i64 (rtD cx cy cd ch cc ls), .int .i64 (rtH cx cy cd ch cc ls), .int .i64 (rtC cx cy cd ch cc ls)] ∧ OwnI u3 w21.heap.size (.slice a12 ((rtL cx cy cd ch cc ls).length) c13) (rtL cx cy cd ch cc ls) ∧ Blk u3 X14 [.int .i64 (rtX cx cy cd ch cc ls), .int .i64 (rtY cx cy cd ch cc ls), .int .i64 (rtD cx cy cd ch cc ls), .int .i64 (rtH cx cy cd ch cc ls), .int .i64 (rtC cx cy cd ch cc ls)])) := hide (fun W u3 h b => ⟨h.1.trans (b.mono h.1.size), h.2.1.below b, h.2.2.1.below b, h.2.2.2.1.below b, h.2.2.2.2.1.below b, h.2.2.2.2.2.1.below b, h.2.2.2.2.2.2.1.below b, h.2.2.2.2.2.2.2.below b⟩)
  have Hw23 := hide hw23
  have HX14 := hide hX14
  clear hw23 hX14
  go_wp2_with fail
  try rw [← unhide Hw23]
  try rw [unhide HX14]
  clear Hw23 HX14 mPp0 mPp1 mPp2 mPp3 mPp4 mQWp00 mQWp01 mQWp02 mQWp03 mQWp04 mQGp00 mQGp01 mQGp02 mQGp03 mQGp04
  refine (eqCraft_alike _ _ _ _ _ _ _ _ _ _ _ (cfAlike_refl _)).mono ?_
  rintro x w24 ⟨rfl, b⟩
  have S29 : Hid (w23.heap.size ≤ w24.heap.size) := hide b.size
  have K : Hid (Below w.heap.size w w24 ∧ Blk w24 w.heap.size [.int .i64 cx, .int .i64 cy, .int .i64 cd, .int .i64 ch, .int .i64 cc] ∧ OwnI w24 w4.heap.size (.slice a3 ((rtL cx cy cd ch cc ls).length) c4) (rtL cx cy cd ch cc ls) ∧ Blk w24 X5 [.int .i64 (rtX cx cy cd ch cc ls), .int .i64 (rtY cx cy cd ch cc ls), .int .i64 (rtD cx cy cd ch cc ls), .int .i64 (rtH cx cy cd ch cc ls), .int .i64 (rtC cx cy cd ch cc ls)] ∧ OwnI w24 w8.heap.size (.slice a7 ((rtL cx cy cd ch cc ls).length) c8) (markI (rtL cx cy cd ch cc ls) 1 ((rtL cx cy cd ch cc ls).length)) ∧ Blk w24 X9 [.int .i64 (rtX cx cy cd ch cc ls), .int .i64 (rtY cx cy cd ch cc ls), .int .i64 (rtD cx cy cd ch cc ls), .int .i64 (rtH cx cy cd ch cc ls), .int .i64 (rtC cx cy cd ch cc ls)] ∧ OwnI w24 w21.heap.size (.slice a12 ((rtL cx cy cd ch cc ls).length) c13) (rtL cx cy cd ch cc ls) ∧ Blk w24 X14 [.int .i64 (rtX cx cy cd ch cc ls), .int .i64 (rtY cx cy cd ch cc ls), .int .i64 (rtD cx cy cd ch cc ls), .int .i64 (rtH cx cy cd ch cc ls), .int .i64 (rtC cx cy cd ch cc ls)]) := hide ((unhide KEPT) _ _ (unhide K) b)
  clear b
  have mPp0 : w24.cell? ⟨w.heap.size, 0, none⟩ = some (.int .i64 cx) := (unhide K).2.1.c 0 (by simp)
  have mPp1 : w24.cell? ⟨w.heap.size, 1, none⟩ = some (.int .i64 cy) := (unhide K).2.1.c 1 (by simp)
  have mPp2 : w24.cell? ⟨w.heap.size, 2, none⟩ = some (.int .i64 cd) := (unhide K).2.1.c 2 (by simp)
  have mPp3 : w24.cell? ⟨w.heap.size, 3, none⟩ = some (.int .i64 ch) := (unhide K).2.1.c 3 (by simp)
  have mPp4 : w24.cell? ⟨w.heap.size, 4, none⟩ = some (.int .i64 cc) := (unhide K).2.1.c 4 (by simp)
  have mQWp00 : w24.cell? ⟨X5, 0, none⟩ = some (.int .i64 (rtX cx cy cd ch cc ls)) := (unhide K).2.2.2.1.c 0 (by simp)
  have mQWp01 : w24.cell? ⟨X5, 1, none⟩ = some (.int .i64 (rtY cx cy cd ch cc ls)) := (unhide K).2.2.2.1.c 1 (by simp)
  have mQWp02 : w24.cell? ⟨X5, 2, none⟩ = some (.int .i64 (rtD cx cy cd ch cc ls)) := (unhide K).2.2.2.1.c 2 (by simp)
  have mQWp03 : w24.cell? ⟨X5, 3, none⟩ = some (.int .i64 (rtH cx cy cd ch cc ls)) := (unhide K).2.2.2.1.c 3 (by simp)
  have mQWp04 : w24.cell? ⟨X5, 4, none⟩ = some (.int .i64 (rtC cx cy cd ch cc ls)) := (unhide K).2.2.2.1.c 4 (by simp)
  have mQGp00 : w24.cell? ⟨X9, 0, none⟩ = some (.int .i64 (rtX cx cy cd ch cc ls)) := (unhide K).2.2.2.2.2.1.c 0 (by simp)
  have mQGp01 : w24.cell? ⟨X9, 1, none⟩ = some (.int .i64 (rtY cx cy cd ch cc ls)) := (unhide K).2.2.2.2.2.1.c 1 (by simp)
  have mQGp02 : w24.cell? ⟨X9, 2, none⟩ = some (.int .i64 (rtD cx cy cd ch cc ls)) := (unhide K).2.2.2.2.2.1.c 2 (by simp)
  have mQGp03 : w24.cell? ⟨X9, 3, none⟩ = some (.int .i64 (rtH cx cy cd ch cc ls)) := (unhide K).2.2.2.2.2.1.c 3 (by simp)
  have mQGp04 : w24.cell? ⟨X9, 4, none⟩ = some (.int .i64 (rtC cx cy cd ch cc ls)) := (unhide K).2.2.2.2.2.1.c 4 (by simp)
  have mQHp00 : w24.cell? ⟨X14, 0, none⟩ = some (.int .i64 (rtX cx cy cd ch cc ls)) := (unhide K).2.2.2.2.2.2.2.c 0 (by simp)
  have mQHp01 : w24.cell? ⟨X14, 1, none⟩ = some (.int .i64 (rtY cx cy cd ch cc ls)) := (unhide K).2.2.2.2.2.2.2.c 1 (by simp)
  have mQHp02 : w24.cell? ⟨X14, 2, none⟩ = some (.int .i64 (rtD cx cy cd ch cc ls)) := (unhide K).2.2.2.2.2.2.2.c 2 (by simp)
  have mQHp03 : w24.cell? ⟨X14, 3, none⟩ = some (.int .i64 (rtH cx cy cd ch cc ls)) := (unhide K).2.2.2.2.2.2.2.c 3 (by simp)
  have mQHp04 : w24.cell? ⟨X14, 4, none⟩ = some (.int .i64 (rtC cx cy cd ch cc ls)) := (unhide K).2.2.2.2.2.2.2.c 4 (by simp)
  go_wp2_with fail
  clear mPp0 mPp1 mPp2 mPp3 mPp4 mQWp00 mQWp01 mQWp02 mQWp03 mQWp04 mQGp00 mQGp01 mQGp02 mQGp03 mQGp04 mQHp00 mQHp01 mQHp02 mQHp03 mQHp04
  refine (eqIntS_same _ _ _ _ _ _ _ _ (unhide K).2.2.2.2.2.2.1.row (unhide K).2.2.1.row).mono ?_
  rintro x w25 ⟨rfl, b⟩
  have S30 : Hid (w24.heap.size ≤ w25.heap.size) := hide b.size
  have K : Hid (Below w.heap.size w w25 ∧ Blk w25 w.heap.size [.int .i64 cx, .int .i64 cy, .int .i64 cd, .int .i64 ch, .int .i64 cc] ∧ OwnI w25 w4.heap.size (.slice a3 ((rtL cx cy cd ch cc ls).length) c4) (rtL cx cy cd ch cc ls) ∧ Blk w25 X5 [.int .i64 (rtX cx cy cd ch cc ls), .int .i64 (rtY cx cy cd ch cc ls), .int .i64 (rtD cx cy cd ch cc ls), .int .i64 (rtH cx cy cd ch cc ls), .int .i64 (rtC cx cy cd ch cc ls)] ∧ OwnI w25 w8.heap.size (.slice a7 ((rtL cx cy cd ch cc ls).length) c8) (markI (rtL cx cy cd ch cc ls) 1 ((rtL cx cy cd ch cc ls).length)) ∧ Blk w25 X9 [.int .i64 (rtX cx cy cd ch cc ls), .int .i64 (rtY cx cy cd ch cc ls), .int .i64 (rtD cx cy cd ch cc ls), .int .i64 (rtH cx cy cd ch cc ls), .int .i64 (rtC cx cy cd ch cc ls)] ∧ OwnI w25 w21.heap.size (.slice a12 ((rtL cx cy cd ch cc ls).length) c13) (rtL cx cy cd ch cc ls) ∧ Blk w25 X14 [.int .i64 (rtX cx cy cd ch cc ls), .int .i64 (rtY cx cy cd ch cc ls), .int .i64 (rtD cx cy cd ch cc ls), .int .i64 (rtH cx cy cd ch cc ls), .int .i64 (rtC cx cy cd ch cc ls)]) := hide ((unhide KEPT) _ _ (unhide K) b)
  clear b
  have mPp0 : w25.cell? ⟨w.heap.size, 0, none⟩ = some (.int .i64 cx) := (unhide K).2.1.c 0 (by simp)
  have mPp1 : w25.cell? ⟨w.heap.size, 1, none⟩ = some (.int .i64 cy) := (unhide K).2.1.c 1 (by simp)
  have mPp2 : w25.cell? ⟨w.heap.size, 2, none⟩ = some (.int .i64 cd) := (unhide K).2.1.c 2 (by simp)
  have mPp3 : w25.cell? ⟨w.heap.size, 3, none⟩ = some (.int .i64 ch) := (unhide K).2.1.c 3 (by simp)
  have mPp4 : w25.cell? ⟨w.heap.size, 4, none⟩ = some (.int .i64 cc) := (unhide K).2.1.c 4 (by simp)
  have mQWp00 : w25.cell? ⟨X5, 0, none⟩ = some (.int .i64 (rtX cx cy cd ch cc ls)) := (unhide K).2.2.2.1.c 0 (by simp)
  have mQWp01 : w25.cell? ⟨X5, 1, none⟩ = some (.int .i64 (rtY cx cy cd ch cc ls)) := (unhide K).2.2.2.1.c 1 (by simp)
  have mQWp02 : w25.cell? ⟨X5, 2, none⟩ = some (.int .i64 (rtD cx cy cd ch cc ls)) := (unhide K).2.2.2.1.c 2 (by simp)
  have mQWp03 : w25.cell? ⟨X5, 3, none⟩ = some (.int .i64 (rtH cx cy cd ch cc ls)) := (unhide K).2.2.2.1.c 3 (by simp)
  have mQWp04 : w25.cell? ⟨X5, 4, none⟩ = some (.int .i64 (rtC cx cy cd ch cc ls)) := (unhide K).2.2.2.1.c 4 (by simp)
  have mQGp00 : w25.cell? ⟨X9, 0, none⟩ = some (.int .i64 (rtX cx cy cd ch cc ls)) := (unhide K).2.2.2.2.2.1.c 0 (by simp)
  have mQGp01 : w25.cell? ⟨X9, 1, none⟩ = some (.int .i64 (rtY cx cy cd ch cc ls)) := (unhide K).2.2.2.2.2.1.c 1 (by simp)
  have mQGp02 : w25.cell? ⟨X9, 2, none⟩ = some (.int .i64 (rtD cx cy cd ch cc ls)) := (unhide K).2.2.2.2.2.1.c 2 (by simp)
  have mQGp03 : w25.cell? ⟨X9, 3, none⟩ = some (.int .i64 (rtH cx cy cd ch cc ls)) := (unhide K).2.2.2.2.2.1.c 3 (by simp)
  have mQGp04 : w25.cell? ⟨X9, 4, none⟩ = some (.int .i64 (rtC cx cy cd ch cc ls)) := (unhide K).2.2.2.2.2.1.c 4 (by simp)
  have mQHp00 : w25.cell? ⟨X14, 0, none⟩ = some (.int .i64 (rtX cx cy cd ch cc ls)) := (unhide K).2.2.2.2.2.2.2.c 0 (by simp)
  have mQHp01 : w25.cell? ⟨X14, 1, none⟩ = some (.int .i64 (rtY cx cy cd ch cc ls)) := (unhide K).2.2.2.2.2.2.2.c 1 (by simp)
  have mQHp02 : w25.cell? ⟨X14, 2, none⟩ = some (.int .i64 (rtD cx cy cd ch cc ls)) := (unhide K).2.2.2.2.2.2.2.c 2 (by simp)
  have mQHp03 : w25.cell? ⟨X14, 3, none⟩ = some (.int .i64 (rtH cx cy cd ch cc ls)) := (unhide K).2.2.2.2.2.2.2.c 3 (by simp)
  have mQHp04 : w25.cell? ⟨X14, 4, none⟩ = some (.int .i64 (rtC cx cy cd ch cc ls)) := (unhide K).2.2.2.2.2.2.2.c 4 (by simp)
  go_wp2_with fail
  clear mPp0 mPp1 mPp2 mPp3 mPp4 mQWp00 mQWp01 mQWp02 mQWp03 mQWp04 mQGp00 mQGp01 mQGp02 mQGp03 mQGp04 mQHp00 mQHp01 mQHp02 mQHp03 mQHp04
  refine (heldIntS_any _ _ _ _ _ 1 _ (unhide K).2.2.2.2.1 (rfl) (by have := hsm; omega) (by omega) (by omega)).mono ?_
  rintro x w26 ⟨rfl, hw⟩
  have b : Below w25.heap.size w25 w26 := by rw [hw]; exact Below.refl _ _
  clear hw
  have S31 : Hid (w25.heap.size ≤ w26.heap.size) := hide b.size
  have K : Hid (Below w.heap.size w w26 ∧ Blk w26 w.heap.size [.int .i64 cx, .int .i64 cy, .int .i64 cd, .int .i64 ch, .int .i64 cc] ∧ OwnI w26 w4.heap.size (.slice a3 ((rtL cx cy cd ch cc ls).length) c4) (rtL cx cy cd ch cc ls) ∧ Blk w26 X5 [.int .i64 (rtX cx cy cd ch cc ls), .int .i64 (rtY cx cy cd ch cc ls), .int .i64 (rtD cx cy cd ch cc ls), .int .i64 (rtH cx cy cd ch cc ls), .int .i64 (rtC cx cy cd ch cc ls)] ∧ OwnI w26 w8.heap.size (.slice a7 ((rtL cx cy cd ch cc ls).length) c8) (markI (rtL cx cy cd ch cc ls) 1 ((rtL cx cy cd ch cc ls).length)) ∧ Blk w26 X9 [.int .i64 (rtX cx cy cd ch cc ls), .int .i64 (rtY cx cy cd ch cc ls), .int .i64 (rtD cx cy cd ch cc ls), .int .i64 (rtH cx cy cd ch cc ls), .int .i64 (rtC cx cy cd ch cc ls)] ∧ OwnI w26 w21.heap.size (.slice a12 ((rtL cx cy cd ch cc ls).length) c13) (rtL cx cy cd ch cc ls) ∧ Blk w26 X14 [.int .i64 (rtX cx cy cd ch cc ls), .int .i64 (rtY cx cy cd ch cc ls), .int .i64 (rtD cx cy cd ch cc ls), .int .i64 (rtH cx cy cd ch cc ls), .int .i64 (rtC cx cy cd ch cc ls)]) := hide ((unhide KEPT) _ _ (unhide K) b)
  clear b
  have nq26 : ¬ (1 + ((rtL cx cy cd ch cc ls).length : Int) < 0) := by omega
  have nn26 : (1 + ((rtL cx cy cd ch cc ls).length : Int) != 1 + ((rtL cx cy cd ch cc ls).length : Int)) = false := by simp
  have mPp0 : w26.cell? ⟨w.heap.size, 0, none⟩ = some (.int .i64 cx) := (unhide K).2.1.c 0 (by simp)
  have mPp1 : w26.cell? ⟨w.heap.size, 1, none⟩ = some (.int .i64 cy) := (unhide K).2.1.c 1 (by simp)
  have mPp2 : w26.cell? ⟨w.heap.size, 2, none⟩ = some (.int .i64 cd) := (unhide K).2.1.c 2 (by simp)
  have mPp3 : w26.cell? ⟨w.heap.size, 3, none⟩ = some (.int .i64 ch) := (unhide K).2.1.c 3 (by simp)
  have mPp4 : w26.cell? ⟨w.heap.size, 4, none⟩ = some (.int .i64 cc) := (unhide K).2.1.c 4 (by simp)
  have mQWp00 : w26.cell? ⟨X5, 0, none⟩ = some (.int .i64 (rtX cx cy cd ch cc ls)) := (unhide K).2.2.2.1.c 0 (by simp)
  have mQWp01 : w26.cell? ⟨X5, 1, none⟩ = some (.int .i64 (rtY cx cy cd ch cc ls)) := (unhide K).2.2.2.1.c 1 (by simp)
  have mQWp02 : w26.cell? ⟨X5, 2, none⟩ = some (.int .i64 (rtD cx cy cd ch cc ls)) := (unhide K).2.2.2.1.c 2 (by simp)
  have mQWp03 : w26.cell? ⟨X5, 3, none⟩ = some (.int .i64 (rtH cx cy cd ch cc ls)) := (unhide K).2.2.2.1.c 3 (by simp)
  have mQWp04 : w26.cell? ⟨X5, 4, none⟩ = some (.int .i64 (rtC cx cy cd ch cc ls)) := (unhide K).2.2.2.1.c 4 (by simp)
  have mQGp00 : w26.cell? ⟨X9, 0, none⟩ = some (.int .i64 (rtX cx cy cd ch cc ls)) := (unhide K).2.2.2.2.2.1.c 0 (by simp)
  have mQGp01 : w26.cell? ⟨X9, 1, none⟩ = some (.int .i64 (rtY cx cy cd ch cc ls)) := (unhide K).2.2.2.2.2.1.c 1 (by simp)
  have mQGp02 : w26.cell? ⟨X9, 2, none⟩ = some (.int .i64 (rtD cx cy cd ch cc ls)) := (unhide K).2.2.2.2.2.1.c 2 (by simp)
  have mQGp03 : w26.cell? ⟨X9, 3, none⟩ = some (.int .i64 (rtH cx cy cd ch cc ls)) := (unhide K).2.2.2.2.2.1.c 3 (by simp)
  have mQGp04 : w26.cell? ⟨X9, 4, none⟩ = some (.int .i64 (rtC cx cy cd ch cc ls)) := (unhide K).2.2.2.2.2.1.c 4 (by simp)
  have mQHp00 : w26.cell? ⟨X14, 0, none⟩ = some (.int .i64 (rtX cx cy cd ch cc ls)) := (unhide K).2.2.2.2.2.2.2.c 0 (by simp)
  have mQHp01 : w26.cell? ⟨X14, 1, none⟩ = some (.int .i64 (rtY cx cy cd ch cc ls)) := (unhide K).2.2.2.2.2.2.2.c 1 (by simp)
  have mQHp02 : w26.cell? ⟨X14, 2, none⟩ = some (.int .i64 (rtD cx cy cd ch cc ls)) := (unhide K).2.2.2.2.2.2.2.c 2 (by simp)
  have mQHp03 : w26.cell? ⟨X14, 3, none⟩ = some (.int .i64 (rtH cx cy cd ch cc ls)) := (unhide K).2.2.2.2.2.2.2.c 3 (by simp)
  have mQHp04 : w26.cell? ⟨X14, 4, none⟩ = some (.int .i64 (rtC cx cy cd ch cc ls)) := (unhide K).2.2.2.2.2.2.2.c 4 (by simp)
  go_wp2_with fail
  clear mPp0 mPp1 mPp2 mPp3 mPp4 mQWp00 mQWp01 mQWp02 mQWp03 mQWp04 mQGp00 mQGp01 mQGp02 mQGp03 mQGp04 mQHp00 mQHp01 mQHp02 mQHp03 mQHp04
  go_ret
  exact ⟨rfl, (unhide K).1⟩
end Go.Proofs.YtkpmoolggpojdauDoor
