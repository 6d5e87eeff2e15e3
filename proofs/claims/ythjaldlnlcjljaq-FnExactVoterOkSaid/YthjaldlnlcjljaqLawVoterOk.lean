/-
  The law FnExactVoterOk returns true at every argument and writes nothing that was there: the walk. No condition.
-/
import Derived.Test.YthjaldlnlcjljaqVoTo
import Derived.Test.YthjaldlnlcjljaqVoOk
import Derived.Deep.RegionHeld3
namespace Go.Proofs.Ythjaldlnlcjljaq
open Go.RowKit
set_option maxRecDepth 20000 in
set_option maxHeartbeats 8000000 in
theorem lawVoterOk (n h : Int) (va1 va2 : Option Addr) (vl1 vc1 vl2 vc2 : Nat) (bs : List Bool) (os : List Int) (w : World) (hrv : VoIn w va1 va2 vl1 vl2 bs os)  :
    Calls Try.prog 3 #[.agg #[.int .i64 n, .int .i64 h, .slice va1 vl1 vc1, .slice va2 vl2 vc2]] w fun x w' => x = .returned (.bool true) ∧ Below w.heap.size w w' := by
  have Rv := hide hrv
  have smv1 := hrv.r1.small
  have Ev1 := hide hrv.r1.len_eq
  have smv2 := hrv.r2.small
  have Ev2 := hide hrv.r2.len_eq
  clear hrv
  have hq : (voOk n h bs os != voOk n h bs os) = false := by simp
  go_enter Try.func3, Try.ntmps3
  go_wp2_with fail
  obtain ⟨w1, hw1⟩ : ∃ W, W = (w.alloc (Obj.cells #[.int .i64 n, .int .i64 h, .slice va1 vl1 vc1, .slice va2 vl2 vc2] 25)) := ⟨_, rfl⟩
  rw [← hw1]
  have K : Hid (Below w.heap.size w w1 ∧ Blk w1 w.heap.size [.int .i64 n, .int .i64 h, .slice va1 vl1 vc1, .slice va2 vl2 vc2]) := hide ⟨(by rw [hw1]; exact bel1 _), (by rw [hw1]; exact Blk.new _ _)⟩
  have S0 : Hid (w.heap.size + 1 ≤ w1.heap.size) := hide (by rw [hw1]; simp; try omega)
  clear hw1
  have KEPT : Hid (∀ W u3, (Below w.heap.size w W ∧ Blk W w.heap.size [.int .i64 n, .int .i64 h, .slice va1 vl1 vc1, .slice va2 vl2 vc2]) → Below W.heap.size W u3 → (Below w.heap.size w u3 ∧ Blk u3 w.heap.size [.int .i64 n, .int .i64 h, .slice va1 vl1 vc1, .slice va2 vl2 vc2])) := hide (fun W u3 h b => ⟨h.1.trans (b.mono h.1.size), h.2.below b⟩)
  refine (szVoter_any _ _ _ _ _ _ _ _ 1048576 _ smv1 smv2 (by omega) (by omega)).mono ?_
  rintro x w2 ⟨⟨r1, rfl, hl⟩, b⟩
  have S1 : Hid (w1.heap.size ≤ w2.heap.size) := hide b.size
  have K : Hid (Below w.heap.size w w2 ∧ Blk w2 w.heap.size [.int .i64 n, .int .i64 h, .slice va1 vl1 vc1, .slice va2 vl2 vc2]) := hide ((unhide KEPT) _ _ (unhide K) b)
  clear b
  rcases hl with hl | ⟨hl, hle, hv1, hv2⟩
  · go_wp2_with fail
    go_ret
    exact ⟨rfl, (unhide K).1⟩
  have nr1 : ¬ r1 < 0 := by omega
  have mPv0 : w2.cell? ⟨w.heap.size, 0, none⟩ = some (.int .i64 n) := (unhide K).2.c 0 (by simp)
  have mPv1 : w2.cell? ⟨w.heap.size, 1, none⟩ = some (.int .i64 h) := (unhide K).2.c 1 (by simp)
  have mPv2 : w2.cell? ⟨w.heap.size, 2, none⟩ = some (.slice va1 vl1 vc1) := (unhide K).2.c 2 (by simp)
  have mPv3 : w2.cell? ⟨w.heap.size, 3, none⟩ = some (.slice va2 vl2 vc2) := (unhide K).2.c 3 (by simp)
  go_wp2_with fail
  clear mPv0 mPv1 mPv2 mPv3
  refine (toVoter_own _ _ _ _ _ _ _ _ _ _ _ ((unhide Rv).below (unhide K).1) hv1 hv2).mono ?_
  rintro x w3 ⟨⟨g2, g3, rfl, oc⟩, b⟩
  have LT3 : Hid (VoLies w2.heap.size w3.heap.size (some ⟨g2, 0, none⟩) (some ⟨g3, 0, none⟩) vl1 vl1 vl2 vl2) := hide oc.lies
  have S2 : Hid (w2.heap.size ≤ w3.heap.size) := hide b.size
  have K : Hid (Below w.heap.size w w3 ∧ Blk w3 w.heap.size [.int .i64 n, .int .i64 h, .slice va1 vl1 vc1, .slice va2 vl2 vc2]) := hide ((unhide KEPT) _ _ (unhide K) b)
  have K : Hid (Below w.heap.size w w3 ∧ Blk w3 w.heap.size [.int .i64 n, .int .i64 h, .slice va1 vl1 vc1, .slice va2 vl2 vc2] ∧ VoOwn w3 w2.heap.size (some ⟨g2, 0, none⟩) (some ⟨g3, 0, none⟩) vl1 vl1 vl2 vl2 bs os) := hide ⟨(unhide K).1, (unhide K).2, oc⟩
  clear KEPT oc b
  have KEPT : Hid (∀ W u3, (Below w.heap.size w W ∧ Blk W w.heap.size [.int .i64 n, .int .i64 h, .slice va1 vl1 vc1, .slice va2 vl2 vc2] ∧ VoOwn W w2.heap.size (some ⟨g2, 0, none⟩) (some ⟨g3, 0, none⟩) vl1 vl1 vl2 vl2 bs os) → Below W.heap.size W u3 → (Below w.heap.size w u3 ∧ Blk u3 w.heap.size [.int .i64 n, .int .i64 h, .slice va1 vl1 vc1, .slice va2 vl2 vc2] ∧ VoOwn u3 w2.heap.size (some ⟨g2, 0, none⟩) (some ⟨g3, 0, none⟩) vl1 vl1 vl2 vl2 bs os)) := hide (fun W u3 h b => ⟨h.1.trans (b.mono h.1.size), h.2.1.below b, h.2.2.below b⟩)
  have mPv0 : w3.cell? ⟨w.heap.size, 0, none⟩ = some (.int .i64 n) := (unhide K).2.1.c 0 (by simp)
  have mPv1 : w3.cell? ⟨w.heap.size, 1, none⟩ = some (.int .i64 h) := (unhide K).2.1.c 1 (by simp)
  have mPv2 : w3.cell? ⟨w.heap.size, 2, none⟩ = some (.slice va1 vl1 vc1) := (unhide K).2.1.c 2 (by simp)
  have mPv3 : w3.cell? ⟨w.heap.size, 3, none⟩ = some (.slice va2 vl2 vc2) := (unhide K).2.1.c 3 (by simp)
  go_wp2_with fail
  clear mPv0 mPv1 mPv2 mPv3
  refine (specVoterOk_any _ _ _ _ _ _ _ _ _ _ _ (unhide K).2.2.read ).mono ?_
  rintro x w4 ⟨rfl, b⟩
  have S3 : Hid (w3.heap.size ≤ w4.heap.size) := hide b.size
  have K : Hid (Below w.heap.size w w4 ∧ Blk w4 w.heap.size [.int .i64 n, .int .i64 h, .slice va1 vl1 vc1, .slice va2 vl2 vc2] ∧ VoOwn w4 w2.heap.size (some ⟨g2, 0, none⟩) (some ⟨g3, 0, none⟩) vl1 vl1 vl2 vl2 bs os) := hide ((unhide KEPT) _ _ (unhide K) b)
  clear b
  have K : Hid (Below w.heap.size w w4 ∧ Blk w4 w.heap.size [.int .i64 n, .int .i64 h, .slice va1 vl1 vc1, .slice va2 vl2 vc2]) := hide ⟨(unhide K).1, (unhide K).2.1⟩
  clear KEPT
  have KEPT : Hid (∀ W u3, (Below w.heap.size w W ∧ Blk W w.heap.size [.int .i64 n, .int .i64 h, .slice va1 vl1 vc1, .slice va2 vl2 vc2]) → Below W.heap.size W u3 → (Below w.heap.size w u3 ∧ Blk u3 w.heap.size [.int .i64 n, .int .i64 h, .slice va1 vl1 vc1, .slice va2 vl2 vc2])) := hide (fun W u3 h b => ⟨h.1.trans (b.mono h.1.size), h.2.below b⟩)
  have mPv0 : w4.cell? ⟨w.heap.size, 0, none⟩ = some (.int .i64 n) := (unhide K).2.c 0 (by simp)
  have mPv1 : w4.cell? ⟨w.heap.size, 1, none⟩ = some (.int .i64 h) := (unhide K).2.c 1 (by simp)
  have mPv2 : w4.cell? ⟨w.heap.size, 2, none⟩ = some (.slice va1 vl1 vc1) := (unhide K).2.c 2 (by simp)
  have mPv3 : w4.cell? ⟨w.heap.size, 3, none⟩ = some (.slice va2 vl2 vc2) := (unhide K).2.c 3 (by simp)
  go_wp2_with fail
  clear mPv0 mPv1 mPv2 mPv3
  refine (toVoter_own _ _ _ _ _ _ _ _ _ _ _ ((unhide Rv).below (unhide K).1) hv1 hv2).mono ?_
  rintro x w5 ⟨⟨g4, g5, rfl, oc⟩, b⟩
  have LXx0 : Hid (VoLies w4.heap.size w5.heap.size (some ⟨g4, 0, none⟩) (some ⟨g5, 0, none⟩) vl1 vl1 vl2 vl2) := hide oc.lies
  have S4 : Hid (w4.heap.size ≤ w5.heap.size) := hide b.size
  have K : Hid (Below w.heap.size w w5 ∧ Blk w5 w.heap.size [.int .i64 n, .int .i64 h, .slice va1 vl1 vc1, .slice va2 vl2 vc2]) := hide ((unhide KEPT) _ _ (unhide K) b)
  have K : Hid (Below w.heap.size w w5 ∧ Blk w5 w.heap.size [.int .i64 n, .int .i64 h, .slice va1 vl1 vc1, .slice va2 vl2 vc2] ∧ VoOwn w5 w4.heap.size (some ⟨g4, 0, none⟩) (some ⟨g5, 0, none⟩) vl1 vl1 vl2 vl2 bs os) := hide ⟨(unhide K).1, (unhide K).2, oc⟩
  clear KEPT oc b
  have KEPT : Hid (∀ W u3, (Below w.heap.size w W ∧ Blk W w.heap.size [.int .i64 n, .int .i64 h, .slice va1 vl1 vc1, .slice va2 vl2 vc2] ∧ VoOwn W w4.heap.size (some ⟨g4, 0, none⟩) (some ⟨g5, 0, none⟩) vl1 vl1 vl2 vl2 bs os) → Below W.heap.size W u3 → (Below w.heap.size w u3 ∧ Blk u3 w.heap.size [.int .i64 n, .int .i64 h, .slice va1 vl1 vc1, .slice va2 vl2 vc2] ∧ VoOwn u3 w4.heap.size (some ⟨g4, 0, none⟩) (some ⟨g5, 0, none⟩) vl1 vl1 vl2 vl2 bs os)) := hide (fun W u3 h b => ⟨h.1.trans (b.mono h.1.size), h.2.1.below b, h.2.2.below b⟩)
  obtain ⟨w6, hw6⟩ : ∃ V, V = w5.alloc (Obj.cells #[.int .i64 n, .int .i64 h, .slice (some ⟨g4, 0, none⟩) vl1 vl1, .slice (some ⟨g5, 0, none⟩) vl2 vl2] 28) := ⟨_, rfl⟩
  have b : Below w5.heap.size w5 w6 := by rw [hw6]; exact bel1 _
  have kx : Blk w6 w5.heap.size [.int .i64 n, .int .i64 h, .slice (some ⟨g4, 0, none⟩) vl1 vl1, .slice (some ⟨g5, 0, none⟩) vl2 vl2] := by rw [hw6]; exact Blk.new _ _
  have S5 : Hid (w5.heap.size + 1 ≤ w6.heap.size) := hide (by rw [hw6]; simp)
  have S6 : Hid (w5.heap.size ≤ w6.heap.size) := hide b.size
  have K : Hid (Below w.heap.size w w6 ∧ Blk w6 w.heap.size [.int .i64 n, .int .i64 h, .slice va1 vl1 vc1, .slice va2 vl2 vc2] ∧ VoOwn w6 w4.heap.size (some ⟨g4, 0, none⟩) (some ⟨g5, 0, none⟩) vl1 vl1 vl2 vl2 bs os) := hide ((unhide KEPT) _ _ (unhide K) b)
  have mPv0 : w6.cell? ⟨w.heap.size, 0, none⟩ = some (.int .i64 n) := (unhide K).2.1.c 0 (by simp)
  have mPv1 : w6.cell? ⟨w.heap.size, 1, none⟩ = some (.int .i64 h) := (unhide K).2.1.c 1 (by simp)
  have mPv2 : w6.cell? ⟨w.heap.size, 2, none⟩ = some (.slice va1 vl1 vc1) := (unhide K).2.1.c 2 (by simp)
  have mPv3 : w6.cell? ⟨w.heap.size, 3, none⟩ = some (.slice va2 vl2 vc2) := (unhide K).2.1.c 3 (by simp)
  rw [hw6] at mPv0 mPv1 mPv2 mPv3
  obtain ⟨X6, hX6⟩ : ∃ X, w5.heap.size = X := ⟨_, rfl⟩
  rw [hX6] at kx
  have S7 : Hid (w5.heap.size = X6) := hide hX6
  have K : Hid (Below w.heap.size w w6 ∧ Blk w6 w.heap.size [.int .i64 n, .int .i64 h, .slice va1 vl1 vc1, .slice va2 vl2 vc2] ∧ VoOwn w6 w4.heap.size (some ⟨g4, 0, none⟩) (some ⟨g5, 0, none⟩) vl1 vl1 vl2 vl2 bs os ∧ Blk w6 X6 [.int .i64 n, .int .i64 h, .slice (some ⟨g4, 0, none⟩) vl1 vl1, .slice (some ⟨g5, 0, none⟩) vl2 vl2]) := hide ⟨(unhide K).1, (unhide K).2.1, (unhide K).2.2, kx⟩
  clear KEPT b kx
  have KEPT : Hid (∀ W u3, (Below w.heap.size w W ∧ Blk W w.heap.size [.int .i64 n, .int .i64 h, .slice va1 vl1 vc1, .slice va2 vl2 vc2] ∧ VoOwn W w4.heap.size (some ⟨g4, 0, none⟩) (some ⟨g5, 0, none⟩) vl1 vl1 vl2 vl2 bs os ∧ Blk W X6 [.int .i64 n, .int .i64 h, .slice (some ⟨g4, 0, none⟩) vl1 vl1, .slice (some ⟨g5, 0, none⟩) vl2 vl2]) → Below W.heap.size W u3 → (Below w.heap.size w u3 ∧ Blk u3 w.heap.size [.int .i64 n, .int .i64 h, .slice va1 vl1 vc1, .slice va2 vl2 vc2] ∧ VoOwn u3 w4.heap.size (some ⟨g4, 0, none⟩) (some ⟨g5, 0, none⟩) vl1 vl1 vl2 vl2 bs os ∧ Blk u3 X6 [.int .i64 n, .int .i64 h, .slice (some ⟨g4, 0, none⟩) vl1 vl1, .slice (some ⟨g5, 0, none⟩) vl2 vl2])) := hide (fun W u3 h b => ⟨h.1.trans (b.mono h.1.size), h.2.1.below b, h.2.2.1.below b, h.2.2.2.below b⟩)
  have Hw6 := hide hw6
  have HX6 := hide hX6
  clear hw6 hX6
  go_wp2_with fail
  try rw [← unhide Hw6]
  try rw [unhide HX6]
  clear Hw6 HX6 mPv0 mPv1 mPv2 mPv3
  refine (implVoterOk_any _ _ _ _ _ _ _ _ _ _ _ (unhide K).2.2.1.read ).mono ?_
  rintro x w7 ⟨rfl, b⟩
  have S8 : Hid (w6.heap.size ≤ w7.heap.size) := hide b.size
  have K : Hid (Below w.heap.size w w7 ∧ Blk w7 w.heap.size [.int .i64 n, .int .i64 h, .slice va1 vl1 vc1, .slice va2 vl2 vc2] ∧ VoOwn w7 w4.heap.size (some ⟨g4, 0, none⟩) (some ⟨g5, 0, none⟩) vl1 vl1 vl2 vl2 bs os ∧ Blk w7 X6 [.int .i64 n, .int .i64 h, .slice (some ⟨g4, 0, none⟩) vl1 vl1, .slice (some ⟨g5, 0, none⟩) vl2 vl2]) := hide ((unhide KEPT) _ _ (unhide K) b)
  clear b
  have mPv0 : w7.cell? ⟨w.heap.size, 0, none⟩ = some (.int .i64 n) := (unhide K).2.1.c 0 (by simp)
  have mPv1 : w7.cell? ⟨w.heap.size, 1, none⟩ = some (.int .i64 h) := (unhide K).2.1.c 1 (by simp)
  have mPv2 : w7.cell? ⟨w.heap.size, 2, none⟩ = some (.slice va1 vl1 vc1) := (unhide K).2.1.c 2 (by simp)
  have mPv3 : w7.cell? ⟨w.heap.size, 3, none⟩ = some (.slice va2 vl2 vc2) := (unhide K).2.1.c 3 (by simp)
  have mQXx00 : w7.cell? ⟨X6, 0, none⟩ = some (.int .i64 n) := (unhide K).2.2.2.c 0 (by simp)
  have mQXx01 : w7.cell? ⟨X6, 1, none⟩ = some (.int .i64 h) := (unhide K).2.2.2.c 1 (by simp)
  have mQXx02 : w7.cell? ⟨X6, 2, none⟩ = some (.slice (some ⟨g4, 0, none⟩) vl1 vl1) := (unhide K).2.2.2.c 2 (by simp)
  have mQXx03 : w7.cell? ⟨X6, 3, none⟩ = some (.slice (some ⟨g5, 0, none⟩) vl2 vl2) := (unhide K).2.2.2.c 3 (by simp)
  go_wp2_with fail
  clear mPv0 mPv1 mPv2 mPv3 mQXx00 mQXx01 mQXx02 mQXx03
  have mQXx00 : w7.cell? ⟨X6, 0, none⟩ = some (.int .i64 n) := (unhide K).2.2.2.c 0 (by simp)
  have mQXx01 : w7.cell? ⟨X6, 1, none⟩ = some (.int .i64 h) := (unhide K).2.2.2.c 1 (by simp)
  have mQXx02 : w7.cell? ⟨X6, 2, none⟩ = some (.slice (some ⟨g4, 0, none⟩) vl1 vl1) := (unhide K).2.2.2.c 2 (by simp)
  have mQXx03 : w7.cell? ⟨X6, 3, none⟩ = some (.slice (some ⟨g5, 0, none⟩) vl2 vl2) := (unhide K).2.2.2.c 3 (by simp)
  have mPv0 : w7.cell? ⟨w.heap.size, 0, none⟩ = some (.int .i64 n) := (unhide K).2.1.c 0 (by simp)
  have mPv1 : w7.cell? ⟨w.heap.size, 1, none⟩ = some (.int .i64 h) := (unhide K).2.1.c 1 (by simp)
  have mPv2 : w7.cell? ⟨w.heap.size, 2, none⟩ = some (.slice va1 vl1 vc1) := (unhide K).2.1.c 2 (by simp)
  have mPv3 : w7.cell? ⟨w.heap.size, 3, none⟩ = some (.slice va2 vl2 vc2) := (unhide K).2.1.c 3 (by simp)
  go_region_held3 (fun w' => w'.cell? ⟨X6, 0, none⟩ = some (.int .i64 n) ∧ w'.cell? ⟨X6, 1, none⟩ = some (.int .i64 h) ∧ w'.cell? ⟨X6, 2, none⟩ = some (.slice (some ⟨g4, 0, none⟩) vl1 vl1) ∧ w'.cell? ⟨X6, 3, none⟩ = some (.slice (some ⟨g5, 0, none⟩) vl2 vl2) ∧ w'.cell? ⟨w.heap.size, 0, none⟩ = some (.int .i64 n) ∧ w'.cell? ⟨w.heap.size, 1, none⟩ = some (.int .i64 h) ∧ w'.cell? ⟨w.heap.size, 2, none⟩ = some (.slice va1 vl1 vc1) ∧ w'.cell? ⟨w.heap.size, 3, none⟩ = some (.slice va2 vl2 vc2)) (go_keep)
    ((first
      | (go_at_call 11; refine (toVoter_own _ _ _ _ _ _ _ _ _ _ _ (by first | exact (unhide Rv).below (unhide K).1 | exact ((unhide Rv).below (unhide K).1).below (bel0d 1)) hv1 hv2).mono ?_; rintro x w8 ⟨⟨e7, e8, rfl, oc⟩, b⟩; have IC := hide oc.read; clear oc; have K := hide (show Below w.heap.size w w8 ∧ Blk w8 w.heap.size [.int .i64 n, .int .i64 h, .slice va1 vl1 vc1, .slice va2 vl2 vc2] ∧ VoOwn w8 w4.heap.size (some ⟨g4, 0, none⟩) (some ⟨g5, 0, none⟩) vl1 vl1 vl2 vl2 bs os ∧ Blk w8 X6 [.int .i64 n, .int .i64 h, .slice (some ⟨g4, 0, none⟩) vl1 vl1, .slice (some ⟨g5, 0, none⟩) vl2 vl2] from by first | exact (unhide KEPT) _ _ (unhide K) b | exact (unhide KEPT) _ _ ((unhide KEPT) _ _ (unhide K) (bel0d 1)) b); clear mQXx00 mQXx01 mQXx02 mQXx03 mPv0 mPv1 mPv2 mPv3; have mQXx00 : w8.cell? ⟨X6, 0, none⟩ = some (.int .i64 n) := (unhide K).2.2.2.c 0 (by simp); have mQXx01 : w8.cell? ⟨X6, 1, none⟩ = some (.int .i64 h) := (unhide K).2.2.2.c 1 (by simp); have mQXx02 : w8.cell? ⟨X6, 2, none⟩ = some (.slice (some ⟨g4, 0, none⟩) vl1 vl1) := (unhide K).2.2.2.c 2 (by simp); have mQXx03 : w8.cell? ⟨X6, 3, none⟩ = some (.slice (some ⟨g5, 0, none⟩) vl2 vl2) := (unhide K).2.2.2.c 3 (by simp); have mPv0 : w8.cell? ⟨w.heap.size, 0, none⟩ = some (.int .i64 n) := (unhide K).2.1.c 0 (by simp); have mPv1 : w8.cell? ⟨w.heap.size, 1, none⟩ = some (.int .i64 h) := (unhide K).2.1.c 1 (by simp); have mPv2 : w8.cell? ⟨w.heap.size, 2, none⟩ = some (.slice va1 vl1 vc1) := (unhide K).2.1.c 2 (by simp); have mPv3 : w8.cell? ⟨w.heap.size, 3, none⟩ = some (.slice va2 vl2 vc2) := (unhide K).2.1.c 3 (by simp); clear b)
      | (go_at_call 13; refine (eqVoter_same _ _ _ _ _ _ _ _ _ _ _ _ _ _ _ (by first | exact (unhide K).2.2.1.read | exact (unhide K).2.2.1.read.below (bel0d 1)) (by first | exact unhide IC | exact (unhide IC).below (bel0d 1))).mono ?_; rintro x w9 ⟨rfl, b⟩; clear IC; have K := hide (show Below w.heap.size w w9 ∧ Blk w9 w.heap.size [.int .i64 n, .int .i64 h, .slice va1 vl1 vc1, .slice va2 vl2 vc2] ∧ VoOwn w9 w4.heap.size (some ⟨g4, 0, none⟩) (some ⟨g5, 0, none⟩) vl1 vl1 vl2 vl2 bs os ∧ Blk w9 X6 [.int .i64 n, .int .i64 h, .slice (some ⟨g4, 0, none⟩) vl1 vl1, .slice (some ⟨g5, 0, none⟩) vl2 vl2] from by first | exact (unhide KEPT) _ _ (unhide K) b | exact (unhide KEPT) _ _ ((unhide KEPT) _ _ (unhide K) (bel0d 1)) b); clear mQXx00 mQXx01 mQXx02 mQXx03 mPv0 mPv1 mPv2 mPv3; have mQXx00 : w9.cell? ⟨X6, 0, none⟩ = some (.int .i64 n) := (unhide K).2.2.2.c 0 (by simp); have mQXx01 : w9.cell? ⟨X6, 1, none⟩ = some (.int .i64 h) := (unhide K).2.2.2.c 1 (by simp); have mQXx02 : w9.cell? ⟨X6, 2, none⟩ = some (.slice (some ⟨g4, 0, none⟩) vl1 vl1) := (unhide K).2.2.2.c 2 (by simp); have mQXx03 : w9.cell? ⟨X6, 3, none⟩ = some (.slice (some ⟨g5, 0, none⟩) vl2 vl2) := (unhide K).2.2.2.c 3 (by simp); have mPv0 : w9.cell? ⟨w.heap.size, 0, none⟩ = some (.int .i64 n) := (unhide K).2.1.c 0 (by simp); have mPv1 : w9.cell? ⟨w.heap.size, 1, none⟩ = some (.int .i64 h) := (unhide K).2.1.c 1 (by simp); have mPv2 : w9.cell? ⟨w.heap.size, 2, none⟩ = some (.slice va1 vl1 vc1) := (unhide K).2.1.c 2 (by simp); have mPv3 : w9.cell? ⟨w.heap.size, 3, none⟩ = some (.slice va2 vl2 vc2) := (unhide K).2.1.c 3 (by simp); clear b)))
  clear mQXx00 mQXx01 mQXx02 mQXx03 mPv0 mPv1 mPv2 mPv3
  have mPv0 : w9.cell? ⟨w.heap.size, 0, none⟩ = some (.int .i64 n) := (unhide K).2.1.c 0 (by simp)
  have mPv1 : w9.cell? ⟨w.heap.size, 1, none⟩ = some (.int .i64 h) := (unhide K).2.1.c 1 (by simp)
  have mPv2 : w9.cell? ⟨w.heap.size, 2, none⟩ = some (.slice va1 vl1 vc1) := (unhide K).2.1.c 2 (by simp)
  have mPv3 : w9.cell? ⟨w.heap.size, 3, none⟩ = some (.slice va2 vl2 vc2) := (unhide K).2.1.c 3 (by simp)
  have mQXx00 : w9.cell? ⟨X6, 0, none⟩ = some (.int .i64 n) := (unhide K).2.2.2.c 0 (by simp)
  have mQXx01 : w9.cell? ⟨X6, 1, none⟩ = some (.int .i64 h) := (unhide K).2.2.2.c 1 (by simp)
  have mQXx02 : w9.cell? ⟨X6, 2, none⟩ = some (.slice (some ⟨g4, 0, none⟩) vl1 vl1) := (unhide K).2.2.2.c 2 (by simp)
  have mQXx03 : w9.cell? ⟨X6, 3, none⟩ = some (.slice (some ⟨g5, 0, none⟩) vl2 vl2) := (unhide K).2.2.2.c 3 (by simp)
  go_wp2_with fail
  clear mPv0 mPv1 mPv2 mPv3 mQXx00 mQXx01 mQXx02 mQXx03
  go_ret
  exact ⟨rfl, (unhide K).1⟩
end Go.Proofs.Ythjaldlnlcjljaq
