/-
  The law FnExactTwoAlike returns true at every argument and writes nothing that was there: the walk. No condition.
-/
import Derived.Test.YthjaldlnlcjljaqVtTwo
import Derived.Test.YthjaldlnlcjljaqVsTwo
import Derived.Deep.RegionHeld3
namespace Go.Proofs.Ythjaldlnlcjljaq
open Go.RowKit
set_option maxRecDepth 20000 in
set_option maxHeartbeats 8000000 in
theorem lawTwoAlike (n h : Int) (va1 va2 : Option Addr) (vl1 vc1 vl2 vc2 : Nat) (bs : List Bool) (os : List Int) (sa1 : Option Addr) (sl1 sc1 : Nat) (zs : List Int) (w : World) (hrv : VoIn w va1 va2 vl1 vl2 bs os) (hrs : Row w sa1 sl1 zs)  :
    Calls Try.prog 7 #[.agg #[.int .i64 n, .int .i64 h, .slice va1 vl1 vc1, .slice va2 vl2 vc2], .slice sa1 sl1 sc1] w fun x w' => x = .returned (.bool true) ∧ Below w.heap.size w w' := by
  have Rv := hide hrv
  have smv1 := hrv.r1.small
  have Ev1 := hide hrv.r1.len_eq
  have smv2 := hrv.r2.small
  have Ev2 := hide hrv.r2.len_eq
  clear hrv
  have Rs := hide hrs
  have sms1 := hrs.small
  have Es1 := hide hrs.len_eq
  clear hrs
  by_cases gs : (1048576 : Int) < sl1
  · go_enter Try.func7, Try.ntmps7
    go_wp2_with fail
    go_ret
    exact ⟨rfl, bel1 _⟩
  have hs1 : sl1 ≤ 1048576 := by omega
  have hq : (twoB n h bs os zs != twoB n h bs os zs) = false := by simp
  go_enter Try.func7, Try.ntmps7
  go_wp2_with fail
  obtain ⟨w1, hw1⟩ : ∃ W, W = (w.alloc (Obj.cells #[.int .i64 n, .int .i64 h, .slice va1 vl1 vc1, .slice va2 vl2 vc2] 25)) := ⟨_, rfl⟩
  rw [← hw1]
  have K : Hid (Below w.heap.size w w1 ∧ Blk w1 w.heap.size [.int .i64 n, .int .i64 h, .slice va1 vl1 vc1, .slice va2 vl2 vc2]) := hide ⟨(by rw [hw1]; exact bel1 _), (by rw [hw1]; exact Blk.new _ _)⟩
  have S0 : Hid (w.heap.size + 1 ≤ w1.heap.size) := hide (by rw [hw1]; simp; try omega)
  clear hw1
  have KEPT : Hid (∀ W u3, (Below w.heap.size w W ∧ Blk W w.heap.size [.int .i64 n, .int .i64 h, .slice va1 vl1 vc1, .slice va2 vl2 vc2]) → Below W.heap.size W u3 → (Below w.heap.size w u3 ∧ Blk u3 w.heap.size [.int .i64 n, .int .i64 h, .slice va1 vl1 vc1, .slice va2 vl2 vc2])) := hide (fun W u3 h b => ⟨h.1.trans (b.mono h.1.size), h.2.below b⟩)
  refine (szVoter_any _ _ _ _ _ _ _ _ 1048576 _ smv1 smv2 (by omega) (by omega)).mono ?_
  rintro x w2 ⟨⟨r1, rfl, hl⟩, b⟩
  have S1 : Hid (w1.heap.size ≤ w2.heap.size) := hide b.size
  have K : Hid (Below w.heap.size w w2 ∧ Blk w2 w.heap.size [.int .i64 n, .int .i64 h, .slice va1 vl1 vc1, .slice va2 vl2 vc2]) := hide ((unhide KEPT) _ _ (unhide K) b)
  clear b
  rcases hl with hl | ⟨hl, hle, hv1, hv2⟩
  · go_wp2_with fail
    go_ret
    exact ⟨rfl, (unhide K).1⟩
  have nr1 : ¬ r1 < 0 := by omega
  have mPv0 : w2.cell? ⟨w.heap.size, 0, none⟩ = some (.int .i64 n) := (unhide K).2.c 0 (by simp)
  have mPv1 : w2.cell? ⟨w.heap.size, 1, none⟩ = some (.int .i64 h) := (unhide K).2.c 1 (by simp)
  have mPv2 : w2.cell? ⟨w.heap.size, 2, none⟩ = some (.slice va1 vl1 vc1) := (unhide K).2.c 2 (by simp)
  have mPv3 : w2.cell? ⟨w.heap.size, 3, none⟩ = some (.slice va2 vl2 vc2) := (unhide K).2.c 3 (by simp)
  go_wp2_with fail
  clear mPv0 mPv1 mPv2 mPv3
  refine (toVoter_own _ _ _ _ _ _ _ _ _ _ _ ((unhide Rv).below (unhide K).1) hv1 hv2).mono ?_
  rintro x w3 ⟨⟨g2, g3, rfl, oc⟩, b⟩
  have LT3 : Hid (VoLies w2.heap.size w3.heap.size (some ⟨g2, 0, none⟩) (some ⟨g3, 0, none⟩) vl1 vl1 vl2 vl2) := hide oc.lies
  have S2 : Hid (w2.heap.size ≤ w3.heap.size) := hide b.size
  have K : Hid (Below w.heap.size w w3 ∧ Blk w3 w.heap.size [.int .i64 n, .int .i64 h, .slice va1 vl1 vc1, .slice va2 vl2 vc2]) := hide ((unhide KEPT) _ _ (unhide K) b)
  have K : Hid (Below w.heap.size w w3 ∧ Blk w3 w.heap.size [.int .i64 n, .int .i64 h, .slice va1 vl1 vc1, .slice va2 vl2 vc2] ∧ VoOwn w3 w2.heap.size (some ⟨g2, 0, none⟩) (some ⟨g3, 0, none⟩) vl1 vl1 vl2 vl2 bs os) := hide ⟨(unhide K).1, (unhide K).2, oc⟩
  clear KEPT oc b
  have KEPT : Hid (∀ W u3, (Below w.heap.size w W ∧ Blk W w.heap.size [.int .i64 n, .int .i64 h, .slice va1 vl1 vc1, .slice va2 vl2 vc2] ∧ VoOwn W w2.heap.size (some ⟨g2, 0, none⟩) (some ⟨g3, 0, none⟩) vl1 vl1 vl2 vl2 bs os) → Below W.heap.size W u3 → (Below w.heap.size w u3 ∧ Blk u3 w.heap.size [.int .i64 n, .int .i64 h, .slice va1 vl1 vc1, .slice va2 vl2 vc2] ∧ VoOwn u3 w2.heap.size (some ⟨g2, 0, none⟩) (some ⟨g3, 0, none⟩) vl1 vl1 vl2 vl2 bs os)) := hide (fun W u3 h b => ⟨h.1.trans (b.mono h.1.size), h.2.1.below b, h.2.2.below b⟩)
  have mPv0 : w3.cell? ⟨w.heap.size, 0, none⟩ = some (.int .i64 n) := (unhide K).2.1.c 0 (by simp)
  have mPv1 : w3.cell? ⟨w.heap.size, 1, none⟩ = some (.int .i64 h) := (unhide K).2.1.c 1 (by simp)
  have mPv2 : w3.cell? ⟨w.heap.size, 2, none⟩ = some (.slice va1 vl1 vc1) := (unhide K).2.1.c 2 (by simp)
  have mPv3 : w3.cell? ⟨w.heap.size, 3, none⟩ = some (.slice va2 vl2 vc2) := (unhide K).2.1.c 3 (by simp)
  go_wp2_with fail
  clear mPv0 mPv1 mPv2 mPv3
  obtain ⟨g4, hg4⟩ : ∃ G, w3.heap.size = G := ⟨_, rfl⟩
  refine (toIntS_own _ _ _ _ _ ((unhide Rs).below (unhide K).1) hs1).mono ?_
  rintro x w4 ⟨rfl, oc, b⟩
  rw [hg4] at oc ⊢
  have Bg4 := hide hg4
  clear hg4
  have LT4 : Hid (∀ g, (Value.slice (some ⟨g4, 0, none⟩) sl1 sl1).ownBlock = some g → w3.heap.size ≤ g ∧ g < w4.heap.size) := hide (by have e := unhide Bg4; have l := oc.lies; rw [← e] at l ⊢; exact l)
  have S3 : Hid (w3.heap.size ≤ w4.heap.size) := hide b.size
  have K : Hid (Below w.heap.size w w4 ∧ Blk w4 w.heap.size [.int .i64 n, .int .i64 h, .slice va1 vl1 vc1, .slice va2 vl2 vc2] ∧ VoOwn w4 w2.heap.size (some ⟨g2, 0, none⟩) (some ⟨g3, 0, none⟩) vl1 vl1 vl2 vl2 bs os) := hide ((unhide KEPT) _ _ (unhide K) b)
  have K : Hid (Below w.heap.size w w4 ∧ Blk w4 w.heap.size [.int .i64 n, .int .i64 h, .slice va1 vl1 vc1, .slice va2 vl2 vc2] ∧ VoOwn w4 w2.heap.size (some ⟨g2, 0, none⟩) (some ⟨g3, 0, none⟩) vl1 vl1 vl2 vl2 bs os ∧ OwnI w4 w3.heap.size (.slice (some ⟨g4, 0, none⟩) sl1 sl1) zs) := hide ⟨(unhide K).1, (unhide K).2.1, (unhide K).2.2, (by have e := unhide Bg4; rw [e]; exact oc)⟩
  clear KEPT oc b
  have KEPT : Hid (∀ W u3, (Below w.heap.size w W ∧ Blk W w.heap.size [.int .i64 n, .int .i64 h, .slice va1 vl1 vc1, .slice va2 vl2 vc2] ∧ VoOwn W w2.heap.size (some ⟨g2, 0, none⟩) (some ⟨g3, 0, none⟩) vl1 vl1 vl2 vl2 bs os ∧ OwnI W w3.heap.size (.slice (some ⟨g4, 0, none⟩) sl1 sl1) zs) → Below W.heap.size W u3 → (Below w.heap.size w u3 ∧ Blk u3 w.heap.size [.int .i64 n, .int .i64 h, .slice va1 vl1 vc1, .slice va2 vl2 vc2] ∧ VoOwn u3 w2.heap.size (some ⟨g2, 0, none⟩) (some ⟨g3, 0, none⟩) vl1 vl1 vl2 vl2 bs os ∧ OwnI u3 w3.heap.size (.slice (some ⟨g4, 0, none⟩) sl1 sl1) zs)) := hide (fun W u3 h b => ⟨h.1.trans (b.mono h.1.size), h.2.1.below b, h.2.2.1.below b, h.2.2.2.below b⟩)
  have mPv0 : w4.cell? ⟨w.heap.size, 0, none⟩ = some (.int .i64 n) := (unhide K).2.1.c 0 (by simp)
  have mPv1 : w4.cell? ⟨w.heap.size, 1, none⟩ = some (.int .i64 h) := (unhide K).2.1.c 1 (by simp)
  have mPv2 : w4.cell? ⟨w.heap.size, 2, none⟩ = some (.slice va1 vl1 vc1) := (unhide K).2.1.c 2 (by simp)
  have mPv3 : w4.cell? ⟨w.heap.size, 3, none⟩ = some (.slice va2 vl2 vc2) := (unhide K).2.1.c 3 (by simp)
  go_wp2_with fail
  clear mPv0 mPv1 mPv2 mPv3
  refine (specTwoAlike_any _ _ _ _ _ _ _ _ _ _ _ _ _ _ _ (unhide K).2.2.1.read (unhide K).2.2.2.row ).mono ?_
  rintro x w5 ⟨rfl, b⟩
  have S4 : Hid (w4.heap.size ≤ w5.heap.size) := hide b.size
  have K : Hid (Below w.heap.size w w5 ∧ Blk w5 w.heap.size [.int .i64 n, .int .i64 h, .slice va1 vl1 vc1, .slice va2 vl2 vc2] ∧ VoOwn w5 w2.heap.size (some ⟨g2, 0, none⟩) (some ⟨g3, 0, none⟩) vl1 vl1 vl2 vl2 bs os ∧ OwnI w5 w3.heap.size (.slice (some ⟨g4, 0, none⟩) sl1 sl1) zs) := hide ((unhide KEPT) _ _ (unhide K) b)
  clear b
  have K : Hid (Below w.heap.size w w5 ∧ Blk w5 w.heap.size [.int .i64 n, .int .i64 h, .slice va1 vl1 vc1, .slice va2 vl2 vc2]) := hide ⟨(unhide K).1, (unhide K).2.1⟩
  clear KEPT
  have KEPT : Hid (∀ W u3, (Below w.heap.size w W ∧ Blk W w.heap.size [.int .i64 n, .int .i64 h, .slice va1 vl1 vc1, .slice va2 vl2 vc2]) → Below W.heap.size W u3 → (Below w.heap.size w u3 ∧ Blk u3 w.heap.size [.int .i64 n, .int .i64 h, .slice va1 vl1 vc1, .slice va2 vl2 vc2])) := hide (fun W u3 h b => ⟨h.1.trans (b.mono h.1.size), h.2.below b⟩)
  have mPv0 : w5.cell? ⟨w.heap.size, 0, none⟩ = some (.int .i64 n) := (unhide K).2.c 0 (by simp)
  have mPv1 : w5.cell? ⟨w.heap.size, 1, none⟩ = some (.int .i64 h) := (unhide K).2.c 1 (by simp)
  have mPv2 : w5.cell? ⟨w.heap.size, 2, none⟩ = some (.slice va1 vl1 vc1) := (unhide K).2.c 2 (by simp)
  have mPv3 : w5.cell? ⟨w.heap.size, 3, none⟩ = some (.slice va2 vl2 vc2) := (unhide K).2.c 3 (by simp)
  go_wp2_with fail
  clear mPv0 mPv1 mPv2 mPv3
  refine (toVoter_own _ _ _ _ _ _ _ _ _ _ _ ((unhide Rv).below (unhide K).1) hv1 hv2).mono ?_
  rintro x w6 ⟨⟨g5, g6, rfl, oc⟩, b⟩
  have LXx0 : Hid (VoLies w5.heap.size w6.heap.size (some ⟨g5, 0, none⟩) (some ⟨g6, 0, none⟩) vl1 vl1 vl2 vl2) := hide oc.lies
  have S5 : Hid (w5.heap.size ≤ w6.heap.size) := hide b.size
  have K : Hid (Below w.heap.size w w6 ∧ Blk w6 w.heap.size [.int .i64 n, .int .i64 h, .slice va1 vl1 vc1, .slice va2 vl2 vc2]) := hide ((unhide KEPT) _ _ (unhide K) b)
  have K : Hid (Below w.heap.size w w6 ∧ Blk w6 w.heap.size [.int .i64 n, .int .i64 h, .slice va1 vl1 vc1, .slice va2 vl2 vc2] ∧ VoOwn w6 w5.heap.size (some ⟨g5, 0, none⟩) (some ⟨g6, 0, none⟩) vl1 vl1 vl2 vl2 bs os) := hide ⟨(unhide K).1, (unhide K).2, oc⟩
  clear KEPT oc b
  have KEPT : Hid (∀ W u3, (Below w.heap.size w W ∧ Blk W w.heap.size [.int .i64 n, .int .i64 h, .slice va1 vl1 vc1, .slice va2 vl2 vc2] ∧ VoOwn W w5.heap.size (some ⟨g5, 0, none⟩) (some ⟨g6, 0, none⟩) vl1 vl1 vl2 vl2 bs os) → Below W.heap.size W u3 → (Below w.heap.size w u3 ∧ Blk u3 w.heap.size [.int .i64 n, .int .i64 h, .slice va1 vl1 vc1, .slice va2 vl2 vc2] ∧ VoOwn u3 w5.heap.size (some ⟨g5, 0, none⟩) (some ⟨g6, 0, none⟩) vl1 vl1 vl2 vl2 bs os)) := hide (fun W u3 h b => ⟨h.1.trans (b.mono h.1.size), h.2.1.below b, h.2.2.below b⟩)
  obtain ⟨w7, hw7⟩ : ∃ V, V = w6.alloc (Obj.cells #[.int .i64 n, .int .i64 h, .slice (some ⟨g5, 0, none⟩) vl1 vl1, .slice (some ⟨g6, 0, none⟩) vl2 vl2] 28) := ⟨_, rfl⟩
  have b : Below w6.heap.size w6 w7 := by rw [hw7]; exact bel1 _
  have kx : Blk w7 w6.heap.size [.int .i64 n, .int .i64 h, .slice (some ⟨g5, 0, none⟩) vl1 vl1, .slice (some ⟨g6, 0, none⟩) vl2 vl2] := by rw [hw7]; exact Blk.new _ _
  have S6 : Hid (w6.heap.size + 1 ≤ w7.heap.size) := hide (by rw [hw7]; simp)
  have S7 : Hid (w6.heap.size ≤ w7.heap.size) := hide b.size
  have K : Hid (Below w.heap.size w w7 ∧ Blk w7 w.heap.size [.int .i64 n, .int .i64 h, .slice va1 vl1 vc1, .slice va2 vl2 vc2] ∧ VoOwn w7 w5.heap.size (some ⟨g5, 0, none⟩) (some ⟨g6, 0, none⟩) vl1 vl1 vl2 vl2 bs os) := hide ((unhide KEPT) _ _ (unhide K) b)
  have mPv0 : w7.cell? ⟨w.heap.size, 0, none⟩ = some (.int .i64 n) := (unhide K).2.1.c 0 (by simp)
  have mPv1 : w7.cell? ⟨w.heap.size, 1, none⟩ = some (.int .i64 h) := (unhide K).2.1.c 1 (by simp)
  have mPv2 : w7.cell? ⟨w.heap.size, 2, none⟩ = some (.slice va1 vl1 vc1) := (unhide K).2.1.c 2 (by simp)
  have mPv3 : w7.cell? ⟨w.heap.size, 3, none⟩ = some (.slice va2 vl2 vc2) := (unhide K).2.1.c 3 (by simp)
  rw [hw7] at mPv0 mPv1 mPv2 mPv3
  obtain ⟨X7, hX7⟩ : ∃ X, w6.heap.size = X := ⟨_, rfl⟩
  rw [hX7] at kx
  have S8 : Hid (w6.heap.size = X7) := hide hX7
  have K : Hid (Below w.heap.size w w7 ∧ Blk w7 w.heap.size [.int .i64 n, .int .i64 h, .slice va1 vl1 vc1, .slice va2 vl2 vc2] ∧ VoOwn w7 w5.heap.size (some ⟨g5, 0, none⟩) (some ⟨g6, 0, none⟩) vl1 vl1 vl2 vl2 bs os ∧ Blk w7 X7 [.int .i64 n, .int .i64 h, .slice (some ⟨g5, 0, none⟩) vl1 vl1, .slice (some ⟨g6, 0, none⟩) vl2 vl2]) := hide ⟨(unhide K).1, (unhide K).2.1, (unhide K).2.2, kx⟩
  clear KEPT b kx
  have KEPT : Hid (∀ W u3, (Below w.heap.size w W ∧ Blk W w.heap.size [.int .i64 n, .int .i64 h, .slice va1 vl1 vc1, .slice va2 vl2 vc2] ∧ VoOwn W w5.heap.size (some ⟨g5, 0, none⟩) (some ⟨g6, 0, none⟩) vl1 vl1 vl2 vl2 bs os ∧ Blk W X7 [.int .i64 n, .int .i64 h, .slice (some ⟨g5, 0, none⟩) vl1 vl1, .slice (some ⟨g6, 0, none⟩) vl2 vl2]) → Below W.heap.size W u3 → (Below w.heap.size w u3 ∧ Blk u3 w.heap.size [.int .i64 n, .int .i64 h, .slice va1 vl1 vc1, .slice va2 vl2 vc2] ∧ VoOwn u3 w5.heap.size (some ⟨g5, 0, none⟩) (some ⟨g6, 0, none⟩) vl1 vl1 vl2 vl2 bs os ∧ Blk u3 X7 [.int .i64 n, .int .i64 h, .slice (some ⟨g5, 0, none⟩) vl1 vl1, .slice (some ⟨g6, 0, none⟩) vl2 vl2])) := hide (fun W u3 h b => ⟨h.1.trans (b.mono h.1.size), h.2.1.below b, h.2.2.1.below b, h.2.2.2.below b⟩)
  have Hw7 := hide hw7
  have HX7 := hide hX7
  clear hw7 hX7
  go_wp2_with fail
  try rw [← unhide Hw7]
  try rw [unhide HX7]
  clear Hw7 HX7 mPv0 mPv1 mPv2 mPv3
  obtain ⟨g8, hg8⟩ : ∃ G, w7.heap.size = G := ⟨_, rfl⟩
  refine (toIntS_own _ _ _ _ _ ((unhide Rs).below (unhide K).1) hs1).mono ?_
  rintro x w8 ⟨rfl, oc, b⟩
  rw [hg8] at oc ⊢
  have Bg8 := hide hg8
  clear hg8
  have LXx1 : Hid (∀ g, (Value.slice (some ⟨g8, 0, none⟩) sl1 sl1).ownBlock = some g → w7.heap.size ≤ g ∧ g < w8.heap.size) := hide (by have e := unhide Bg8; have l := oc.lies; rw [← e] at l ⊢; exact l)
  have S9 : Hid (w7.heap.size ≤ w8.heap.size) := hide b.size
  have K : Hid (Below w.heap.size w w8 ∧ Blk w8 w.heap.size [.int .i64 n, .int .i64 h, .slice va1 vl1 vc1, .slice va2 vl2 vc2] ∧ VoOwn w8 w5.heap.size (some ⟨g5, 0, none⟩) (some ⟨g6, 0, none⟩) vl1 vl1 vl2 vl2 bs os ∧ Blk w8 X7 [.int .i64 n, .int .i64 h, .slice (some ⟨g5, 0, none⟩) vl1 vl1, .slice (some ⟨g6, 0, none⟩) vl2 vl2]) := hide ((unhide KEPT) _ _ (unhide K) b)
  have K : Hid (Below w.heap.size w w8 ∧ Blk w8 w.heap.size [.int .i64 n, .int .i64 h, .slice va1 vl1 vc1, .slice va2 vl2 vc2] ∧ VoOwn w8 w5.heap.size (some ⟨g5, 0, none⟩) (some ⟨g6, 0, none⟩) vl1 vl1 vl2 vl2 bs os ∧ Blk w8 X7 [.int .i64 n, .int .i64 h, .slice (some ⟨g5, 0, none⟩) vl1 vl1, .slice (some ⟨g6, 0, none⟩) vl2 vl2] ∧ OwnI w8 w7.heap.size (.slice (some ⟨g8, 0, none⟩) sl1 sl1) zs) := hide ⟨(unhide K).1, (unhide K).2.1, (unhide K).2.2.1, (unhide K).2.2.2, (by have e := unhide Bg8; rw [e]; exact oc)⟩
  clear KEPT oc b
  have KEPT : Hid (∀ W u3, (Below w.heap.size w W ∧ Blk W w.heap.size [.int .i64 n, .int .i64 h, .slice va1 vl1 vc1, .slice va2 vl2 vc2] ∧ VoOwn W w5.heap.size (some ⟨g5, 0, none⟩) (some ⟨g6, 0, none⟩) vl1 vl1 vl2 vl2 bs os ∧ Blk W X7 [.int .i64 n, .int .i64 h, .slice (some ⟨g5, 0, none⟩) vl1 vl1, .slice (some ⟨g6, 0, none⟩) vl2 vl2] ∧ OwnI W w7.heap.size (.slice (some ⟨g8, 0, none⟩) sl1 sl1) zs) → Below W.heap.size W u3 → (Below w.heap.size w u3 ∧ Blk u3 w.heap.size [.int .i64 n, .int .i64 h, .slice va1 vl1 vc1, .slice va2 vl2 vc2] ∧ VoOwn u3 w5.heap.size (some ⟨g5, 0, none⟩) (some ⟨g6, 0, none⟩) vl1 vl1 vl2 vl2 bs os ∧ Blk u3 X7 [.int .i64 n, .int .i64 h, .slice (some ⟨g5, 0, none⟩) vl1 vl1, .slice (some ⟨g6, 0, none⟩) vl2 vl2] ∧ OwnI u3 w7.heap.size (.slice (some ⟨g8, 0, none⟩) sl1 sl1) zs)) := hide (fun W u3 h b => ⟨h.1.trans (b.mono h.1.size), h.2.1.below b, h.2.2.1.below b, h.2.2.2.1.below b, h.2.2.2.2.below b⟩)
  have mPv0 : w8.cell? ⟨w.heap.size, 0, none⟩ = some (.int .i64 n) := (unhide K).2.1.c 0 (by simp)
  have mPv1 : w8.cell? ⟨w.heap.size, 1, none⟩ = some (.int .i64 h) := (unhide K).2.1.c 1 (by simp)
  have mPv2 : w8.cell? ⟨w.heap.size, 2, none⟩ = some (.slice va1 vl1 vc1) := (unhide K).2.1.c 2 (by simp)
  have mPv3 : w8.cell? ⟨w.heap.size, 3, none⟩ = some (.slice va2 vl2 vc2) := (unhide K).2.1.c 3 (by simp)
  have mQXx00 : w8.cell? ⟨X7, 0, none⟩ = some (.int .i64 n) := (unhide K).2.2.2.1.c 0 (by simp)
  have mQXx01 : w8.cell? ⟨X7, 1, none⟩ = some (.int .i64 h) := (unhide K).2.2.2.1.c 1 (by simp)
  have mQXx02 : w8.cell? ⟨X7, 2, none⟩ = some (.slice (some ⟨g5, 0, none⟩) vl1 vl1) := (unhide K).2.2.2.1.c 2 (by simp)
  have mQXx03 : w8.cell? ⟨X7, 3, none⟩ = some (.slice (some ⟨g6, 0, none⟩) vl2 vl2) := (unhide K).2.2.2.1.c 3 (by simp)
  go_wp2_with fail
  clear mPv0 mPv1 mPv2 mPv3 mQXx00 mQXx01 mQXx02 mQXx03
  refine (implTwoAlike_any _ _ _ _ _ _ _ _ _ _ _ _ _ _ _ (unhide K).2.2.1.read (unhide K).2.2.2.2.row ).mono ?_
  rintro x w9 ⟨rfl, b⟩
  have S10 : Hid (w8.heap.size ≤ w9.heap.size) := hide b.size
  have K : Hid (Below w.heap.size w w9 ∧ Blk w9 w.heap.size [.int .i64 n, .int .i64 h, .slice va1 vl1 vc1, .slice va2 vl2 vc2] ∧ VoOwn w9 w5.heap.size (some ⟨g5, 0, none⟩) (some ⟨g6, 0, none⟩) vl1 vl1 vl2 vl2 bs os ∧ Blk w9 X7 [.int .i64 n, .int .i64 h, .slice (some ⟨g5, 0, none⟩) vl1 vl1, .slice (some ⟨g6, 0, none⟩) vl2 vl2] ∧ OwnI w9 w7.heap.size (.slice (some ⟨g8, 0, none⟩) sl1 sl1) zs) := hide ((unhide KEPT) _ _ (unhide K) b)
  clear b
  have mPv0 : w9.cell? ⟨w.heap.size, 0, none⟩ = some (.int .i64 n) := (unhide K).2.1.c 0 (by simp)
  have mPv1 : w9.cell? ⟨w.heap.size, 1, none⟩ = some (.int .i64 h) := (unhide K).2.1.c 1 (by simp)
  have mPv2 : w9.cell? ⟨w.heap.size, 2, none⟩ = some (.slice va1 vl1 vc1) := (unhide K).2.1.c 2 (by simp)
  have mPv3 : w9.cell? ⟨w.heap.size, 3, none⟩ = some (.slice va2 vl2 vc2) := (unhide K).2.1.c 3 (by simp)
  have mQXx00 : w9.cell? ⟨X7, 0, none⟩ = some (.int .i64 n) := (unhide K).2.2.2.1.c 0 (by simp)
  have mQXx01 : w9.cell? ⟨X7, 1, none⟩ = some (.int .i64 h) := (unhide K).2.2.2.1.c 1 (by simp)
  have mQXx02 : w9.cell? ⟨X7, 2, none⟩ = some (.slice (some ⟨g5, 0, none⟩) vl1 vl1) := (unhide K).2.2.2.1.c 2 (by simp)
  have mQXx03 : w9.cell? ⟨X7, 3, none⟩ = some (.slice (some ⟨g6, 0, none⟩) vl2 vl2) := (unhide K).2.2.2.1.c 3 (by simp)
  go_wp2_with fail
  clear mPv0 mPv1 mPv2 mPv3 mQXx00 mQXx01 mQXx02 mQXx03
  have mQXx00 : w9.cell? ⟨X7, 0, none⟩ = some (.int .i64 n) := (unhide K).2.2.2.1.c 0 (by simp)
  have mQXx01 : w9.cell? ⟨X7, 1, none⟩ = some (.int .i64 h) := (unhide K).2.2.2.1.c 1 (by simp)
  have mQXx02 : w9.cell? ⟨X7, 2, none⟩ = some (.slice (some ⟨g5, 0, none⟩) vl1 vl1) := (unhide K).2.2.2.1.c 2 (by simp)
  have mQXx03 : w9.cell? ⟨X7, 3, none⟩ = some (.slice (some ⟨g6, 0, none⟩) vl2 vl2) := (unhide K).2.2.2.1.c 3 (by simp)
  have mPv0 : w9.cell? ⟨w.heap.size, 0, none⟩ = some (.int .i64 n) := (unhide K).2.1.c 0 (by simp)
  have mPv1 : w9.cell? ⟨w.heap.size, 1, none⟩ = some (.int .i64 h) := (unhide K).2.1.c 1 (by simp)
  have mPv2 : w9.cell? ⟨w.heap.size, 2, none⟩ = some (.slice va1 vl1 vc1) := (unhide K).2.1.c 2 (by simp)
  have mPv3 : w9.cell? ⟨w.heap.size, 3, none⟩ = some (.slice va2 vl2 vc2) := (unhide K).2.1.c 3 (by simp)
  go_region_held3 (fun w' => w'.cell? ⟨X7, 0, none⟩ = some (.int .i64 n) ∧ w'.cell? ⟨X7, 1, none⟩ = some (.int .i64 h) ∧ w'.cell? ⟨X7, 2, none⟩ = some (.slice (some ⟨g5, 0, none⟩) vl1 vl1) ∧ w'.cell? ⟨X7, 3, none⟩ = some (.slice (some ⟨g6, 0, none⟩) vl2 vl2) ∧ w'.cell? ⟨w.heap.size, 0, none⟩ = some (.int .i64 n) ∧ w'.cell? ⟨w.heap.size, 1, none⟩ = some (.int .i64 h) ∧ w'.cell? ⟨w.heap.size, 2, none⟩ = some (.slice va1 vl1 vc1) ∧ w'.cell? ⟨w.heap.size, 3, none⟩ = some (.slice va2 vl2 vc2)) (go_keep)
    ((first
      | (go_at_call 11; refine (toVoter_own _ _ _ _ _ _ _ _ _ _ _ (by first | exact (unhide Rv).below (unhide K).1 | exact ((unhide Rv).below (unhide K).1).below (bel0d 1)) hv1 hv2).mono ?_; rintro x w10 ⟨⟨e9, e10, rfl, oc⟩, b⟩; have IC := hide oc.read; clear oc; have K := hide (show Below w.heap.size w w10 ∧ Blk w10 w.heap.size [.int .i64 n, .int .i64 h, .slice va1 vl1 vc1, .slice va2 vl2 vc2] ∧ VoOwn w10 w5.heap.size (some ⟨g5, 0, none⟩) (some ⟨g6, 0, none⟩) vl1 vl1 vl2 vl2 bs os ∧ Blk w10 X7 [.int .i64 n, .int .i64 h, .slice (some ⟨g5, 0, none⟩) vl1 vl1, .slice (some ⟨g6, 0, none⟩) vl2 vl2] ∧ OwnI w10 w7.heap.size (.slice (some ⟨g8, 0, none⟩) sl1 sl1) zs from by first | exact (unhide KEPT) _ _ (unhide K) b | exact (unhide KEPT) _ _ ((unhide KEPT) _ _ (unhide K) (bel0d 1)) b); clear mQXx00 mQXx01 mQXx02 mQXx03 mPv0 mPv1 mPv2 mPv3; have mQXx00 : w10.cell? ⟨X7, 0, none⟩ = some (.int .i64 n) := (unhide K).2.2.2.1.c 0 (by simp); have mQXx01 : w10.cell? ⟨X7, 1, none⟩ = some (.int .i64 h) := (unhide K).2.2.2.1.c 1 (by simp); have mQXx02 : w10.cell? ⟨X7, 2, none⟩ = some (.slice (some ⟨g5, 0, none⟩) vl1 vl1) := (unhide K).2.2.2.1.c 2 (by simp); have mQXx03 : w10.cell? ⟨X7, 3, none⟩ = some (.slice (some ⟨g6, 0, none⟩) vl2 vl2) := (unhide K).2.2.2.1.c 3 (by simp); have mPv0 : w10.cell? ⟨w.heap.size, 0, none⟩ = some (.int .i64 n) := (unhide K).2.1.c 0 (by simp); have mPv1 : w10.cell? ⟨w.heap.size, 1, none⟩ = some (.int .i64 h) := (unhide K).2.1.c 1 (by simp); have mPv2 : w10.cell? ⟨w.heap.size, 2, none⟩ = some (.slice va1 vl1 vc1) := (unhide K).2.1.c 2 (by simp); have mPv3 : w10.cell? ⟨w.heap.size, 3, none⟩ = some (.slice va2 vl2 vc2) := (unhide K).2.1.c 3 (by simp); clear b)
      | (go_at_call 13; refine (eqVoter_same _ _ _ _ _ _ _ _ _ _ _ _ _ _ _ (by first | exact (unhide K).2.2.1.read | exact (unhide K).2.2.1.read.below (bel0d 1)) (by first | exact unhide IC | exact (unhide IC).below (bel0d 1))).mono ?_; rintro x w11 ⟨rfl, b⟩; clear IC; have K := hide (show Below w.heap.size w w11 ∧ Blk w11 w.heap.size [.int .i64 n, .int .i64 h, .slice va1 vl1 vc1, .slice va2 vl2 vc2] ∧ VoOwn w11 w5.heap.size (some ⟨g5, 0, none⟩) (some ⟨g6, 0, none⟩) vl1 vl1 vl2 vl2 bs os ∧ Blk w11 X7 [.int .i64 n, .int .i64 h, .slice (some ⟨g5, 0, none⟩) vl1 vl1, .slice (some ⟨g6, 0, none⟩) vl2 vl2] ∧ OwnI w11 w7.heap.size (.slice (some ⟨g8, 0, none⟩) sl1 sl1) zs from by first | exact (unhide KEPT) _ _ (unhide K) b | exact (unhide KEPT) _ _ ((unhide KEPT) _ _ (unhide K) (bel0d 1)) b); clear mQXx00 mQXx01 mQXx02 mQXx03 mPv0 mPv1 mPv2 mPv3; have mQXx00 : w11.cell? ⟨X7, 0, none⟩ = some (.int .i64 n) := (unhide K).2.2.2.1.c 0 (by simp); have mQXx01 : w11.cell? ⟨X7, 1, none⟩ = some (.int .i64 h) := (unhide K).2.2.2.1.c 1 (by simp); have mQXx02 : w11.cell? ⟨X7, 2, none⟩ = some (.slice (some ⟨g5, 0, none⟩) vl1 vl1) := (unhide K).2.2.2.1.c 2 (by simp); have mQXx03 : w11.cell? ⟨X7, 3, none⟩ = some (.slice (some ⟨g6, 0, none⟩) vl2 vl2) := (unhide K).2.2.2.1.c 3 (by simp); have mPv0 : w11.cell? ⟨w.heap.size, 0, none⟩ = some (.int .i64 n) := (unhide K).2.1.c 0 (by simp); have mPv1 : w11.cell? ⟨w.heap.size, 1, none⟩ = some (.int .i64 h) := (unhide K).2.1.c 1 (by simp); have mPv2 : w11.cell? ⟨w.heap.size, 2, none⟩ = some (.slice va1 vl1 vc1) := (unhide K).2.1.c 2 (by simp); have mPv3 : w11.cell? ⟨w.heap.size, 3, none⟩ = some (.slice va2 vl2 vc2) := (unhide K).2.1.c 3 (by simp); clear b)))
  clear mQXx00 mQXx01 mQXx02 mQXx03 mPv0 mPv1 mPv2 mPv3
  have mPv0 : w11.cell? ⟨w.heap.size, 0, none⟩ = some (.int .i64 n) := (unhide K).2.1.c 0 (by simp)
  have mPv1 : w11.cell? ⟨w.heap.size, 1, none⟩ = some (.int .i64 h) := (unhide K).2.1.c 1 (by simp)
  have mPv2 : w11.cell? ⟨w.heap.size, 2, none⟩ = some (.slice va1 vl1 vc1) := (unhide K).2.1.c 2 (by simp)
  have mPv3 : w11.cell? ⟨w.heap.size, 3, none⟩ = some (.slice va2 vl2 vc2) := (unhide K).2.1.c 3 (by simp)
  have mQXx00 : w11.cell? ⟨X7, 0, none⟩ = some (.int .i64 n) := (unhide K).2.2.2.1.c 0 (by simp)
  have mQXx01 : w11.cell? ⟨X7, 1, none⟩ = some (.int .i64 h) := (unhide K).2.2.2.1.c 1 (by simp)
  have mQXx02 : w11.cell? ⟨X7, 2, none⟩ = some (.slice (some ⟨g5, 0, none⟩) vl1 vl1) := (unhide K).2.2.2.1.c 2 (by simp)
  have mQXx03 : w11.cell? ⟨X7, 3, none⟩ = some (.slice (some ⟨g6, 0, none⟩) vl2 vl2) := (unhide K).2.2.2.1.c 3 (by simp)
  go_wp2_with fail
  clear mPv0 mPv1 mPv2 mPv3 mQXx00 mQXx01 mQXx02 mQXx03
  obtain ⟨g11, hg11⟩ : ∃ G, w11.heap.size = G := ⟨_, rfl⟩
  refine (toIntS_own _ _ _ _ _ ((unhide Rs).below (unhide K).1) hs1).mono ?_
  rintro x w12 ⟨rfl, oc, b⟩
  rw [hg11] at oc ⊢
  have Bg11 := hide hg11
  clear hg11
  have IC := hide oc.row
  have S11 : Hid (w11.heap.size ≤ w12.heap.size) := hide b.size
  have K : Hid (Below w.heap.size w w12 ∧ Blk w12 w.heap.size [.int .i64 n, .int .i64 h, .slice va1 vl1 vc1, .slice va2 vl2 vc2] ∧ VoOwn w12 w5.heap.size (some ⟨g5, 0, none⟩) (some ⟨g6, 0, none⟩) vl1 vl1 vl2 vl2 bs os ∧ Blk w12 X7 [.int .i64 n, .int .i64 h, .slice (some ⟨g5, 0, none⟩) vl1 vl1, .slice (some ⟨g6, 0, none⟩) vl2 vl2] ∧ OwnI w12 w7.heap.size (.slice (some ⟨g8, 0, none⟩) sl1 sl1) zs) := hide ((unhide KEPT) _ _ (unhide K) b)
  clear oc b
  have mPv0 : w12.cell? ⟨w.heap.size, 0, none⟩ = some (.int .i64 n) := (unhide K).2.1.c 0 (by simp)
  have mPv1 : w12.cell? ⟨w.heap.size, 1, none⟩ = some (.int .i64 h) := (unhide K).2.1.c 1 (by simp)
  have mPv2 : w12.cell? ⟨w.heap.size, 2, none⟩ = some (.slice va1 vl1 vc1) := (unhide K).2.1.c 2 (by simp)
  have mPv3 : w12.cell? ⟨w.heap.size, 3, none⟩ = some (.slice va2 vl2 vc2) := (unhide K).2.1.c 3 (by simp)
  have mQXx00 : w12.cell? ⟨X7, 0, none⟩ = some (.int .i64 n) := (unhide K).2.2.2.1.c 0 (by simp)
  have mQXx01 : w12.cell? ⟨X7, 1, none⟩ = some (.int .i64 h) := (unhide K).2.2.2.1.c 1 (by simp)
  have mQXx02 : w12.cell? ⟨X7, 2, none⟩ = some (.slice (some ⟨g5, 0, none⟩) vl1 vl1) := (unhide K).2.2.2.1.c 2 (by simp)
  have mQXx03 : w12.cell? ⟨X7, 3, none⟩ = some (.slice (some ⟨g6, 0, none⟩) vl2 vl2) := (unhide K).2.2.2.1.c 3 (by simp)
  go_wp2_with fail
  clear mPv0 mPv1 mPv2 mPv3 mQXx00 mQXx01 mQXx02 mQXx03
  refine (eqIntS_same _ _ _ _ _ _ _ _ (unhide K).2.2.2.2.row (unhide IC)).mono ?_
  rintro x w13 ⟨rfl, b⟩
  have S12 : Hid (w12.heap.size ≤ w13.heap.size) := hide b.size
  have K : Hid (Below w.heap.size w w13 ∧ Blk w13 w.heap.size [.int .i64 n, .int .i64 h, .slice va1 vl1 vc1, .slice va2 vl2 vc2] ∧ VoOwn w13 w5.heap.size (some ⟨g5, 0, none⟩) (some ⟨g6, 0, none⟩) vl1 vl1 vl2 vl2 bs os ∧ Blk w13 X7 [.int .i64 n, .int .i64 h, .slice (some ⟨g5, 0, none⟩) vl1 vl1, .slice (some ⟨g6, 0, none⟩) vl2 vl2] ∧ OwnI w13 w7.heap.size (.slice (some ⟨g8, 0, none⟩) sl1 sl1) zs) := hide ((unhide KEPT) _ _ (unhide K) b)
  clear b IC
  have mPv0 : w13.cell? ⟨w.heap.size, 0, none⟩ = some (.int .i64 n) := (unhide K).2.1.c 0 (by simp)
  have mPv1 : w13.cell? ⟨w.heap.size, 1, none⟩ = some (.int .i64 h) := (unhide K).2.1.c 1 (by simp)
  have mPv2 : w13.cell? ⟨w.heap.size, 2, none⟩ = some (.slice va1 vl1 vc1) := (unhide K).2.1.c 2 (by simp)
  have mPv3 : w13.cell? ⟨w.heap.size, 3, none⟩ = some (.slice va2 vl2 vc2) := (unhide K).2.1.c 3 (by simp)
  have mQXx00 : w13.cell? ⟨X7, 0, none⟩ = some (.int .i64 n) := (unhide K).2.2.2.1.c 0 (by simp)
  have mQXx01 : w13.cell? ⟨X7, 1, none⟩ = some (.int .i64 h) := (unhide K).2.2.2.1.c 1 (by simp)
  have mQXx02 : w13.cell? ⟨X7, 2, none⟩ = some (.slice (some ⟨g5, 0, none⟩) vl1 vl1) := (unhide K).2.2.2.1.c 2 (by simp)
  have mQXx03 : w13.cell? ⟨X7, 3, none⟩ = some (.slice (some ⟨g6, 0, none⟩) vl2 vl2) := (unhide K).2.2.2.1.c 3 (by simp)
  go_wp2_with fail
  clear mPv0 mPv1 mPv2 mPv3 mQXx00 mQXx01 mQXx02 mQXx03
  go_ret
  exact ⟨rfl, (unhide K).1⟩
end Go.Proofs.Ythjaldlnlcjljaq
