/-
  The law FnExactNextDue returns true at every argument and writes nothing that was there: the walk. No condition.
-/
import Derived.Test.YtilahgifaglekbcNxSpec
import Derived.Test.YtilahgifaglekbcNxImp
import Derived.Test.YtilahgifaglekbcFlTo
import Derived.Test.YtilahgifaglekbcOnly
import Derived.Deep.RegionHeld3
namespace Go.Proofs.Ytilahgifaglekbc
open Go.RowKit
set_option maxRecDepth 20000 in
set_option maxHeartbeats 8000000 in
theorem lawNextDue (nh nc nd : Int) (va1 va2 va3 : Option Addr) (vl1 vc1 vl2 vc2 vl3 vc3 : Nat) (ts : List Ts) (cs : List Cr) (ds : List Df) (w : World) (hrv : FlIn w va1 va2 va3 vl1 vl2 vl3 ts cs ds) (hft : ∀ i, fitT (elAt ts i).nm) (hfc : ∀ i, fitT (elAt cs i).n) (hfd : ∀ i, fitT (elAt ds i).n) :
    Calls Try.prog 4 #[.agg #[.slice va1 vl1 vc1, .slice va2 vl2 vc2, .slice va3 vl3 vc3, .int .i64 nh, .int .i64 nc, .int .i64 nd]] w fun x w' => x = .returned (.bool true) ∧ Below w.heap.size w w' := by
  have Rv := hide hrv
  have smv1 := hrv.r1.small
  have Ev1 := hide hrv.r1.len_eq
  have smv2 := hrv.r2.small
  have Ev2 := hide hrv.r2.len_eq
  have smv3 := hrv.r3.small
  have Ev3 := hide hrv.r3.len_eq
  clear hrv
  have HFT := hide hft
  have HFC := hide hfc
  have HFD := hide hfd
  clear hft hfc hfd
  have hq : ((nxR ⟨ts, cs, ds, nh, nc, nd⟩).2.1 != (nxR ⟨ts, cs, ds, nh, nc, nd⟩).2.1) = false := by simp
  have hq2 : ((nxR ⟨ts, cs, ds, nh, nc, nd⟩).2.2 != (nxR ⟨ts, cs, ds, nh, nc, nd⟩).2.2) = false := by simp
  go_enter Try.func4, Try.ntmps4
  go_wp2_with fail
  obtain ⟨w1, hw1⟩ : ∃ W, W = (w.alloc (Obj.cells #[.slice va1 vl1 vc1, .slice va2 vl2 vc2, .slice va3 vl3 vc3, .int .i64 nh, .int .i64 nc, .int .i64 nd] 28)) := ⟨_, rfl⟩
  rw [← hw1]
  have K : Hid (Below w.heap.size w w1 ∧ Blk w1 w.heap.size [.slice va1 vl1 vc1, .slice va2 vl2 vc2, .slice va3 vl3 vc3, .int .i64 nh, .int .i64 nc, .int .i64 nd]) := hide ⟨(by rw [hw1]; exact bel1 _), (by rw [hw1]; exact Blk.new _ _)⟩
  have S0 : Hid (w.heap.size + 1 ≤ w1.heap.size) := hide (by rw [hw1]; simp; try omega)
  clear hw1
  have KEPT : Hid (∀ W u3, (Below w.heap.size w W ∧ Blk W w.heap.size [.slice va1 vl1 vc1, .slice va2 vl2 vc2, .slice va3 vl3 vc3, .int .i64 nh, .int .i64 nc, .int .i64 nd]) → Below W.heap.size W u3 → (Below w.heap.size w u3 ∧ Blk u3 w.heap.size [.slice va1 vl1 vc1, .slice va2 vl2 vc2, .slice va3 vl3 vc3, .int .i64 nh, .int .i64 nc, .int .i64 nd])) := hide (fun W u3 h b => ⟨h.1.trans (b.mono h.1.size), h.2.below b⟩)
  refine (szFleet_any _ _ _ _ _ _ _ _ _ _ _ _ _ _ _ 1048576 _ ((unhide Rv).below (unhide K).1) (unhide HFT) (unhide HFC) (unhide HFD) (by omega) (by omega)).mono ?_
  rintro x w2 ⟨⟨r1, rfl, hl⟩, b⟩
  have S1 : Hid (w1.heap.size ≤ w2.heap.size) := hide b.size
  have K : Hid (Below w.heap.size w w2 ∧ Blk w2 w.heap.size [.slice va1 vl1 vc1, .slice va2 vl2 vc2, .slice va3 vl3 vc3, .int .i64 nh, .int .i64 nc, .int .i64 nd]) := hide ((unhide KEPT) _ _ (unhide K) b)
  clear b
  rcases hl with hl | ⟨hl, hle, hv1, hv2, hv3⟩
  · go_wp2_with fail
    go_ret
    exact ⟨rfl, (unhide K).1⟩
  have nr1 : ¬ r1 < 0 := by omega
  have mPv0 : w2.cell? ⟨w.heap.size, 0, none⟩ = some (.slice va1 vl1 vc1) := (unhide K).2.c 0 (by simp)
  have mPv1 : w2.cell? ⟨w.heap.size, 1, none⟩ = some (.slice va2 vl2 vc2) := (unhide K).2.c 1 (by simp)
  have mPv2 : w2.cell? ⟨w.heap.size, 2, none⟩ = some (.slice va3 vl3 vc3) := (unhide K).2.c 2 (by simp)
  have mPv3 : w2.cell? ⟨w.heap.size, 3, none⟩ = some (.int .i64 nh) := (unhide K).2.c 3 (by simp)
  have mPv4 : w2.cell? ⟨w.heap.size, 4, none⟩ = some (.int .i64 nc) := (unhide K).2.c 4 (by simp)
  have mPv5 : w2.cell? ⟨w.heap.size, 5, none⟩ = some (.int .i64 nd) := (unhide K).2.c 5 (by simp)
  go_wp2_with fail
  clear mPv0 mPv1 mPv2 mPv3 mPv4 mPv5
  refine (toFleet_own _ _ _ _ _ _ _ _ _ _ _ _ _ _ _ _ ((unhide Rv).below (unhide K).1) hv1 hv2 hv3).mono ?_
  rintro x w3 ⟨⟨g2, g3, g4, rfl, oc⟩, b⟩
  have LT3 : Hid (FlLies w2.heap.size w3.heap.size (some ⟨g2, 0, none⟩) (some ⟨g3, 0, none⟩) (some ⟨g4, 0, none⟩) vl1 vl1 vl2 vl2 vl3 vl3) := hide oc.lies
  have S2 : Hid (w2.heap.size ≤ w3.heap.size) := hide b.size
  have K : Hid (Below w.heap.size w w3 ∧ Blk w3 w.heap.size [.slice va1 vl1 vc1, .slice va2 vl2 vc2, .slice va3 vl3 vc3, .int .i64 nh, .int .i64 nc, .int .i64 nd]) := hide ((unhide KEPT) _ _ (unhide K) b)
  have K : Hid (Below w.heap.size w w3 ∧ Blk w3 w.heap.size [.slice va1 vl1 vc1, .slice va2 vl2 vc2, .slice va3 vl3 vc3, .int .i64 nh, .int .i64 nc, .int .i64 nd] ∧ FlOwn w3 w2.heap.size (some ⟨g2, 0, none⟩) (some ⟨g3, 0, none⟩) (some ⟨g4, 0, none⟩) vl1 vl1 vl2 vl2 vl3 vl3 ts cs ds) := hide ⟨(unhide K).1, (unhide K).2, oc⟩
  clear KEPT oc b
  have KEPT : Hid (∀ W u3, (Below w.heap.size w W ∧ Blk W w.heap.size [.slice va1 vl1 vc1, .slice va2 vl2 vc2, .slice va3 vl3 vc3, .int .i64 nh, .int .i64 nc, .int .i64 nd] ∧ FlOwn W w2.heap.size (some ⟨g2, 0, none⟩) (some ⟨g3, 0, none⟩) (some ⟨g4, 0, none⟩) vl1 vl1 vl2 vl2 vl3 vl3 ts cs ds) → Below W.heap.size W u3 → (Below w.heap.size w u3 ∧ Blk u3 w.heap.size [.slice va1 vl1 vc1, .slice va2 vl2 vc2, .slice va3 vl3 vc3, .int .i64 nh, .int .i64 nc, .int .i64 nd] ∧ FlOwn u3 w2.heap.size (some ⟨g2, 0, none⟩) (some ⟨g3, 0, none⟩) (some ⟨g4, 0, none⟩) vl1 vl1 vl2 vl2 vl3 vl3 ts cs ds)) := hide (fun W u3 h b => ⟨h.1.trans (b.mono h.1.size), h.2.1.below b, h.2.2.below b⟩)
  have mPv0 : w3.cell? ⟨w.heap.size, 0, none⟩ = some (.slice va1 vl1 vc1) := (unhide K).2.1.c 0 (by simp)
  have mPv1 : w3.cell? ⟨w.heap.size, 1, none⟩ = some (.slice va2 vl2 vc2) := (unhide K).2.1.c 1 (by simp)
  have mPv2 : w3.cell? ⟨w.heap.size, 2, none⟩ = some (.slice va3 vl3 vc3) := (unhide K).2.1.c 2 (by simp)
  have mPv3 : w3.cell? ⟨w.heap.size, 3, none⟩ = some (.int .i64 nh) := (unhide K).2.1.c 3 (by simp)
  have mPv4 : w3.cell? ⟨w.heap.size, 4, none⟩ = some (.int .i64 nc) := (unhide K).2.1.c 4 (by simp)
  have mPv5 : w3.cell? ⟨w.heap.size, 5, none⟩ = some (.int .i64 nd) := (unhide K).2.1.c 5 (by simp)
  go_wp2_with fail
  clear mPv0 mPv1 mPv2 mPv3 mPv4 mPv5
  refine (specNextDue_any _ _ _ _ _ _ _ _ _ _ _ _ _ _ _ _ (unhide K).2.2.read (unhide HFT) (unhide HFC) (unhide HFD)).mono ?_
  rintro x w4 ⟨rfl, b⟩
  have S3 : Hid (w3.heap.size ≤ w4.heap.size) := hide b.size
  have K : Hid (Below w.heap.size w w4 ∧ Blk w4 w.heap.size [.slice va1 vl1 vc1, .slice va2 vl2 vc2, .slice va3 vl3 vc3, .int .i64 nh, .int .i64 nc, .int .i64 nd] ∧ FlOwn w4 w2.heap.size (some ⟨g2, 0, none⟩) (some ⟨g3, 0, none⟩) (some ⟨g4, 0, none⟩) vl1 vl1 vl2 vl2 vl3 vl3 ts cs ds) := hide ((unhide KEPT) _ _ (unhide K) b)
  clear b
  have K : Hid (Below w.heap.size w w4 ∧ Blk w4 w.heap.size [.slice va1 vl1 vc1, .slice va2 vl2 vc2, .slice va3 vl3 vc3, .int .i64 nh, .int .i64 nc, .int .i64 nd]) := hide ⟨(unhide K).1, (unhide K).2.1⟩
  clear KEPT
  have KEPT : Hid (∀ W u3, (Below w.heap.size w W ∧ Blk W w.heap.size [.slice va1 vl1 vc1, .slice va2 vl2 vc2, .slice va3 vl3 vc3, .int .i64 nh, .int .i64 nc, .int .i64 nd]) → Below W.heap.size W u3 → (Below w.heap.size w u3 ∧ Blk u3 w.heap.size [.slice va1 vl1 vc1, .slice va2 vl2 vc2, .slice va3 vl3 vc3, .int .i64 nh, .int .i64 nc, .int .i64 nd])) := hide (fun W u3 h b => ⟨h.1.trans (b.mono h.1.size), h.2.below b⟩)
  have mPv0 : w4.cell? ⟨w.heap.size, 0, none⟩ = some (.slice va1 vl1 vc1) := (unhide K).2.c 0 (by simp)
  have mPv1 : w4.cell? ⟨w.heap.size, 1, none⟩ = some (.slice va2 vl2 vc2) := (unhide K).2.c 1 (by simp)
  have mPv2 : w4.cell? ⟨w.heap.size, 2, none⟩ = some (.slice va3 vl3 vc3) := (unhide K).2.c 2 (by simp)
  have mPv3 : w4.cell? ⟨w.heap.size, 3, none⟩ = some (.int .i64 nh) := (unhide K).2.c 3 (by simp)
  have mPv4 : w4.cell? ⟨w.heap.size, 4, none⟩ = some (.int .i64 nc) := (unhide K).2.c 4 (by simp)
  have mPv5 : w4.cell? ⟨w.heap.size, 5, none⟩ = some (.int .i64 nd) := (unhide K).2.c 5 (by simp)
  go_wp2_with fail
  clear mPv0 mPv1 mPv2 mPv3 mPv4 mPv5
  refine (toFleet_own _ _ _ _ _ _ _ _ _ _ _ _ _ _ _ _ ((unhide Rv).below (unhide K).1) hv1 hv2 hv3).mono ?_
  rintro x w5 ⟨⟨g5, g6, g7, rfl, oc⟩, b⟩
  have LXx0 : Hid (FlLies w4.heap.size w5.heap.size (some ⟨g5, 0, none⟩) (some ⟨g6, 0, none⟩) (some ⟨g7, 0, none⟩) vl1 vl1 vl2 vl2 vl3 vl3) := hide oc.lies
  have S4 : Hid (w4.heap.size ≤ w5.heap.size) := hide b.size
  have K : Hid (Below w.heap.size w w5 ∧ Blk w5 w.heap.size [.slice va1 vl1 vc1, .slice va2 vl2 vc2, .slice va3 vl3 vc3, .int .i64 nh, .int .i64 nc, .int .i64 nd]) := hide ((unhide KEPT) _ _ (unhide K) b)
  have K : Hid (Below w.heap.size w w5 ∧ Blk w5 w.heap.size [.slice va1 vl1 vc1, .slice va2 vl2 vc2, .slice va3 vl3 vc3, .int .i64 nh, .int .i64 nc, .int .i64 nd] ∧ FlOwn w5 w4.heap.size (some ⟨g5, 0, none⟩) (some ⟨g6, 0, none⟩) (some ⟨g7, 0, none⟩) vl1 vl1 vl2 vl2 vl3 vl3 ts cs ds) := hide ⟨(unhide K).1, (unhide K).2, oc⟩
  clear KEPT oc b
  have KEPT : Hid (∀ W u3, (Below w.heap.size w W ∧ Blk W w.heap.size [.slice va1 vl1 vc1, .slice va2 vl2 vc2, .slice va3 vl3 vc3, .int .i64 nh, .int .i64 nc, .int .i64 nd] ∧ FlOwn W w4.heap.size (some ⟨g5, 0, none⟩) (some ⟨g6, 0, none⟩) (some ⟨g7, 0, none⟩) vl1 vl1 vl2 vl2 vl3 vl3 ts cs ds) → Below W.heap.size W u3 → (Below w.heap.size w u3 ∧ Blk u3 w.heap.size [.slice va1 vl1 vc1, .slice va2 vl2 vc2, .slice va3 vl3 vc3, .int .i64 nh, .int .i64 nc, .int .i64 nd] ∧ FlOwn u3 w4.heap.size (some ⟨g5, 0, none⟩) (some ⟨g6, 0, none⟩) (some ⟨g7, 0, none⟩) vl1 vl1 vl2 vl2 vl3 vl3 ts cs ds)) := hide (fun W u3 h b => ⟨h.1.trans (b.mono h.1.size), h.2.1.below b, h.2.2.below b⟩)
  obtain ⟨w6, hw6⟩ : ∃ V, V = w5.alloc (Obj.cells #[.slice (some ⟨g5, 0, none⟩) vl1 vl1, .slice (some ⟨g6, 0, none⟩) vl2 vl2, .slice (some ⟨g7, 0, none⟩) vl3 vl3, .int .i64 nh, .int .i64 nc, .int .i64 nd] 37) := ⟨_, rfl⟩
  have b : Below w5.heap.size w5 w6 := by rw [hw6]; exact bel1 _
  have kx : Blk w6 w5.heap.size [.slice (some ⟨g5, 0, none⟩) vl1 vl1, .slice (some ⟨g6, 0, none⟩) vl2 vl2, .slice (some ⟨g7, 0, none⟩) vl3 vl3, .int .i64 nh, .int .i64 nc, .int .i64 nd] := by rw [hw6]; exact Blk.new _ _
  have S5 : Hid (w5.heap.size + 1 ≤ w6.heap.size) := hide (by rw [hw6]; simp)
  have S6 : Hid (w5.heap.size ≤ w6.heap.size) := hide b.size
  have K : Hid (Below w.heap.size w w6 ∧ Blk w6 w.heap.size [.slice va1 vl1 vc1, .slice va2 vl2 vc2, .slice va3 vl3 vc3, .int .i64 nh, .int .i64 nc, .int .i64 nd] ∧ FlOwn w6 w4.heap.size (some ⟨g5, 0, none⟩) (some ⟨g6, 0, none⟩) (some ⟨g7, 0, none⟩) vl1 vl1 vl2 vl2 vl3 vl3 ts cs ds) := hide ((unhide KEPT) _ _ (unhide K) b)
  have mPv0 : w6.cell? ⟨w.heap.size, 0, none⟩ = some (.slice va1 vl1 vc1) := (unhide K).2.1.c 0 (by simp)
  have mPv1 : w6.cell? ⟨w.heap.size, 1, none⟩ = some (.slice va2 vl2 vc2) := (unhide K).2.1.c 1 (by simp)
  have mPv2 : w6.cell? ⟨w.heap.size, 2, none⟩ = some (.slice va3 vl3 vc3) := (unhide K).2.1.c 2 (by simp)
  have mPv3 : w6.cell? ⟨w.heap.size, 3, none⟩ = some (.int .i64 nh) := (unhide K).2.1.c 3 (by simp)
  have mPv4 : w6.cell? ⟨w.heap.size, 4, none⟩ = some (.int .i64 nc) := (unhide K).2.1.c 4 (by simp)
  have mPv5 : w6.cell? ⟨w.heap.size, 5, none⟩ = some (.int .i64 nd) := (unhide K).2.1.c 5 (by simp)
  rw [hw6] at mPv0 mPv1 mPv2 mPv3 mPv4 mPv5
  obtain ⟨X8, hX8⟩ : ∃ X, w5.heap.size = X := ⟨_, rfl⟩
  rw [hX8] at kx
  have S7 : Hid (w5.heap.size = X8) := hide hX8
  have K : Hid (Below w.heap.size w w6 ∧ Blk w6 w.heap.size [.slice va1 vl1 vc1, .slice va2 vl2 vc2, .slice va3 vl3 vc3, .int .i64 nh, .int .i64 nc, .int .i64 nd] ∧ FlOwn w6 w4.heap.size (some ⟨g5, 0, none⟩) (some ⟨g6, 0, none⟩) (some ⟨g7, 0, none⟩) vl1 vl1 vl2 vl2 vl3 vl3 ts cs ds ∧ Blk w6 X8 [.slice (some ⟨g5, 0, none⟩) vl1 vl1, .slice (some ⟨g6, 0, none⟩) vl2 vl2, .slice (some ⟨g7, 0, none⟩) vl3 vl3, .int .i64 nh, .int .i64 nc, .int .i64 nd]) := hide ⟨(unhide K).1, (unhide K).2.1, (unhide K).2.2, kx⟩
  clear KEPT b kx
  have KEPT : Hid (∀ W u3, (Below w.heap.size w W ∧ Blk W w.heap.size [.slice va1 vl1 vc1, .slice va2 vl2 vc2, .slice va3 vl3 vc3, .int .i64 nh, .int .i64 nc, .int .i64 nd] ∧ FlOwn W w4.heap.size (some ⟨g5, 0, none⟩) (some ⟨g6, 0, none⟩) (some ⟨g7, 0, none⟩) vl1 vl1 vl2 vl2 vl3 vl3 ts cs ds ∧ Blk W X8 [.slice (some ⟨g5, 0, none⟩) vl1 vl1, .slice (some ⟨g6, 0, none⟩) vl2 vl2, .slice (some ⟨g7, 0, none⟩) vl3 vl3, .int .i64 nh, .int .i64 nc, .int .i64 nd]) → Below W.heap.size W u3 → (Below w.heap.size w u3 ∧ Blk u3 w.heap.size [.slice va1 vl1 vc1, .slice va2 vl2 vc2, .slice va3 vl3 vc3, .int .i64 nh, .int .i64 nc, .int .i64 nd] ∧ FlOwn u3 w4.heap.size (some ⟨g5, 0, none⟩) (some ⟨g6, 0, none⟩) (some ⟨g7, 0, none⟩) vl1 vl1 vl2 vl2 vl3 vl3 ts cs ds ∧ Blk u3 X8 [.slice (some ⟨g5, 0, none⟩) vl1 vl1, .slice (some ⟨g6, 0, none⟩) vl2 vl2, .slice (some ⟨g7, 0, none⟩) vl3 vl3, .int .i64 nh, .int .i64 nc, .int .i64 nd])) := hide (fun W u3 h b => ⟨h.1.trans (b.mono h.1.size), h.2.1.below b, h.2.2.1.below b, h.2.2.2.below b⟩)
  have Hw6 := hide hw6
  have HX8 := hide hX8
  clear hw6 hX8
  go_wp2_with fail
  try rw [← unhide Hw6]
  try rw [unhide HX8]
  clear Hw6 HX8 mPv0 mPv1 mPv2 mPv3 mPv4 mPv5
  refine (implNextDue_any _ _ _ _ _ _ _ _ _ _ _ _ _ _ _ _ (unhide K).2.2.1.read (unhide HFT) (unhide HFC) (unhide HFD)).mono ?_
  rintro x w7 ⟨rfl, b⟩
  have S8 : Hid (w6.heap.size ≤ w7.heap.size) := hide b.size
  have K : Hid (Below w.heap.size w w7 ∧ Blk w7 w.heap.size [.slice va1 vl1 vc1, .slice va2 vl2 vc2, .slice va3 vl3 vc3, .int .i64 nh, .int .i64 nc, .int .i64 nd] ∧ FlOwn w7 w4.heap.size (some ⟨g5, 0, none⟩) (some ⟨g6, 0, none⟩) (some ⟨g7, 0, none⟩) vl1 vl1 vl2 vl2 vl3 vl3 ts cs ds ∧ Blk w7 X8 [.slice (some ⟨g5, 0, none⟩) vl1 vl1, .slice (some ⟨g6, 0, none⟩) vl2 vl2, .slice (some ⟨g7, 0, none⟩) vl3 vl3, .int .i64 nh, .int .i64 nc, .int .i64 nd]) := hide ((unhide KEPT) _ _ (unhide K) b)
  clear b
  have mPv0 : w7.cell? ⟨w.heap.size, 0, none⟩ = some (.slice va1 vl1 vc1) := (unhide K).2.1.c 0 (by simp)
  have mPv1 : w7.cell? ⟨w.heap.size, 1, none⟩ = some (.slice va2 vl2 vc2) := (unhide K).2.1.c 1 (by simp)
  have mPv2 : w7.cell? ⟨w.heap.size, 2, none⟩ = some (.slice va3 vl3 vc3) := (unhide K).2.1.c 2 (by simp)
  have mPv3 : w7.cell? ⟨w.heap.size, 3, none⟩ = some (.int .i64 nh) := (unhide K).2.1.c 3 (by simp)
  have mPv4 : w7.cell? ⟨w.heap.size, 4, none⟩ = some (.int .i64 nc) := (unhide K).2.1.c 4 (by simp)
  have mPv5 : w7.cell? ⟨w.heap.size, 5, none⟩ = some (.int .i64 nd) := (unhide K).2.1.c 5 (by simp)
  have mQXx00 : w7.cell? ⟨X8, 0, none⟩ = some (.slice (some ⟨g5, 0, none⟩) vl1 vl1) := (unhide K).2.2.2.c 0 (by simp)
  have mQXx01 : w7.cell? ⟨X8, 1, none⟩ = some (.slice (some ⟨g6, 0, none⟩) vl2 vl2) := (unhide K).2.2.2.c 1 (by simp)
  have mQXx02 : w7.cell? ⟨X8, 2, none⟩ = some (.slice (some ⟨g7, 0, none⟩) vl3 vl3) := (unhide K).2.2.2.c 2 (by simp)
  have mQXx03 : w7.cell? ⟨X8, 3, none⟩ = some (.int .i64 nh) := (unhide K).2.2.2.c 3 (by simp)
  have mQXx04 : w7.cell? ⟨X8, 4, none⟩ = some (.int .i64 nc) := (unhide K).2.2.2.c 4 (by simp)
  have mQXx05 : w7.cell? ⟨X8, 5, none⟩ = some (.int .i64 nd) := (unhide K).2.2.2.c 5 (by simp)
  go_wp2_with fail
  clear mPv0 mPv1 mPv2 mPv3 mPv4 mPv5 mQXx00 mQXx01 mQXx02 mQXx03 mQXx04 mQXx05
  have mQXx00 : w7.cell? ⟨X8, 0, none⟩ = some (.slice (some ⟨g5, 0, none⟩) vl1 vl1) := (unhide K).2.2.2.c 0 (by simp)
  have mQXx01 : w7.cell? ⟨X8, 1, none⟩ = some (.slice (some ⟨g6, 0, none⟩) vl2 vl2) := (unhide K).2.2.2.c 1 (by simp)
  have mQXx02 : w7.cell? ⟨X8, 2, none⟩ = some (.slice (some ⟨g7, 0, none⟩) vl3 vl3) := (unhide K).2.2.2.c 2 (by simp)
  have mQXx03 : w7.cell? ⟨X8, 3, none⟩ = some (.int .i64 nh) := (unhide K).2.2.2.c 3 (by simp)
  have mQXx04 : w7.cell? ⟨X8, 4, none⟩ = some (.int .i64 nc) := (unhide K).2.2.2.c 4 (by simp)
  have mQXx05 : w7.cell? ⟨X8, 5, none⟩ = some (.int .i64 nd) := (unhide K).2.2.2.c 5 (by simp)
  have mPv0 : w7.cell? ⟨w.heap.size, 0, none⟩ = some (.slice va1 vl1 vc1) := (unhide K).2.1.c 0 (by simp)
  have mPv1 : w7.cell? ⟨w.heap.size, 1, none⟩ = some (.slice va2 vl2 vc2) := (unhide K).2.1.c 1 (by simp)
  have mPv2 : w7.cell? ⟨w.heap.size, 2, none⟩ = some (.slice va3 vl3 vc3) := (unhide K).2.1.c 2 (by simp)
  have mPv3 : w7.cell? ⟨w.heap.size, 3, none⟩ = some (.int .i64 nh) := (unhide K).2.1.c 3 (by simp)
  have mPv4 : w7.cell? ⟨w.heap.size, 4, none⟩ = some (.int .i64 nc) := (unhide K).2.1.c 4 (by simp)
  have mPv5 : w7.cell? ⟨w.heap.size, 5, none⟩ = some (.int .i64 nd) := (unhide K).2.1.c 5 (by simp)
  go_region_held3 (fun w' => w'.cell? ⟨X8, 0, none⟩ = some (.slice (some ⟨g5, 0, none⟩) vl1 vl1) ∧ w'.cell? ⟨X8, 1, none⟩ = some (.slice (some ⟨g6, 0, none⟩) vl2 vl2) ∧ w'.cell? ⟨X8, 2, none⟩ = some (.slice (some ⟨g7, 0, none⟩) vl3 vl3) ∧ w'.cell? ⟨X8, 3, none⟩ = some (.int .i64 nh) ∧ w'.cell? ⟨X8, 4, none⟩ = some (.int .i64 nc) ∧ w'.cell? ⟨X8, 5, none⟩ = some (.int .i64 nd) ∧ w'.cell? ⟨w.heap.size, 0, none⟩ = some (.slice va1 vl1 vc1) ∧ w'.cell? ⟨w.heap.size, 1, none⟩ = some (.slice va2 vl2 vc2) ∧ w'.cell? ⟨w.heap.size, 2, none⟩ = some (.slice va3 vl3 vc3) ∧ w'.cell? ⟨w.heap.size, 3, none⟩ = some (.int .i64 nh) ∧ w'.cell? ⟨w.heap.size, 4, none⟩ = some (.int .i64 nc) ∧ w'.cell? ⟨w.heap.size, 5, none⟩ = some (.int .i64 nd)) (go_keep)
    ((first
      | (go_at_call 7; refine (toFleet_own _ _ _ _ _ _ _ _ _ _ _ _ _ _ _ _ (by first | exact (unhide Rv).below (unhide K).1 | exact ((unhide Rv).below (unhide K).1).below (bel0d 1)) hv1 hv2 hv3).mono ?_; rintro x w8 ⟨⟨e9, e10, e11, rfl, oc⟩, b⟩; have IC := hide oc.read; clear oc; have S9 : Hid (w7.heap.size ≤ w8.heap.size) := hide b.size; have K := hide (show Below w.heap.size w w8 ∧ Blk w8 w.heap.size [.slice va1 vl1 vc1, .slice va2 vl2 vc2, .slice va3 vl3 vc3, .int .i64 nh, .int .i64 nc, .int .i64 nd] ∧ FlOwn w8 w4.heap.size (some ⟨g5, 0, none⟩) (some ⟨g6, 0, none⟩) (some ⟨g7, 0, none⟩) vl1 vl1 vl2 vl2 vl3 vl3 ts cs ds ∧ Blk w8 X8 [.slice (some ⟨g5, 0, none⟩) vl1 vl1, .slice (some ⟨g6, 0, none⟩) vl2 vl2, .slice (some ⟨g7, 0, none⟩) vl3 vl3, .int .i64 nh, .int .i64 nc, .int .i64 nd] from by first | exact (unhide KEPT) _ _ (unhide K) b | exact (unhide KEPT) _ _ ((unhide KEPT) _ _ (unhide K) (bel0d 1)) b); clear mQXx00 mQXx01 mQXx02 mQXx03 mQXx04 mQXx05 mPv0 mPv1 mPv2 mPv3 mPv4 mPv5; have mQXx00 : w8.cell? ⟨X8, 0, none⟩ = some (.slice (some ⟨g5, 0, none⟩) vl1 vl1) := (unhide K).2.2.2.c 0 (by simp); have mQXx01 : w8.cell? ⟨X8, 1, none⟩ = some (.slice (some ⟨g6, 0, none⟩) vl2 vl2) := (unhide K).2.2.2.c 1 (by simp); have mQXx02 : w8.cell? ⟨X8, 2, none⟩ = some (.slice (some ⟨g7, 0, none⟩) vl3 vl3) := (unhide K).2.2.2.c 2 (by simp); have mQXx03 : w8.cell? ⟨X8, 3, none⟩ = some (.int .i64 nh) := (unhide K).2.2.2.c 3 (by simp); have mQXx04 : w8.cell? ⟨X8, 4, none⟩ = some (.int .i64 nc) := (unhide K).2.2.2.c 4 (by simp); have mQXx05 : w8.cell? ⟨X8, 5, none⟩ = some (.int .i64 nd) := (unhide K).2.2.2.c 5 (by simp); have mPv0 : w8.cell? ⟨w.heap.size, 0, none⟩ = some (.slice va1 vl1 vc1) := (unhide K).2.1.c 0 (by simp); have mPv1 : w8.cell? ⟨w.heap.size, 1, none⟩ = some (.slice va2 vl2 vc2) := (unhide K).2.1.c 1 (by simp); have mPv2 : w8.cell? ⟨w.heap.size, 2, none⟩ = some (.slice va3 vl3 vc3) := (unhide K).2.1.c 2 (by simp); have mPv3 : w8.cell? ⟨w.heap.size, 3, none⟩ = some (.int .i64 nh) := (unhide K).2.1.c 3 (by simp); have mPv4 : w8.cell? ⟨w.heap.size, 4, none⟩ = some (.int .i64 nc) := (unhide K).2.1.c 4 (by simp); have mPv5 : w8.cell? ⟨w.heap.size, 5, none⟩ = some (.int .i64 nd) := (unhide K).2.1.c 5 (by simp); clear b)
      | (go_at_call 9; refine (eqFleet_same _ _ _ _ _ _ _ _ _ _ _ _ _ _ _ _ _ _ _ _ _ _ (by first | exact (unhide K).2.2.1.read | exact (unhide K).2.2.1.read.below (bel0d 1)) (by first | exact unhide IC | exact (unhide IC).below (bel0d 1))).mono ?_; rintro x w9 ⟨rfl, b⟩; clear IC; have S10 : Hid (w8.heap.size ≤ w9.heap.size) := hide b.size; have K := hide (show Below w.heap.size w w9 ∧ Blk w9 w.heap.size [.slice va1 vl1 vc1, .slice va2 vl2 vc2, .slice va3 vl3 vc3, .int .i64 nh, .int .i64 nc, .int .i64 nd] ∧ FlOwn w9 w4.heap.size (some ⟨g5, 0, none⟩) (some ⟨g6, 0, none⟩) (some ⟨g7, 0, none⟩) vl1 vl1 vl2 vl2 vl3 vl3 ts cs ds ∧ Blk w9 X8 [.slice (some ⟨g5, 0, none⟩) vl1 vl1, .slice (some ⟨g6, 0, none⟩) vl2 vl2, .slice (some ⟨g7, 0, none⟩) vl3 vl3, .int .i64 nh, .int .i64 nc, .int .i64 nd] from by first | exact (unhide KEPT) _ _ (unhide K) b | exact (unhide KEPT) _ _ ((unhide KEPT) _ _ (unhide K) (bel0d 1)) b); clear mQXx00 mQXx01 mQXx02 mQXx03 mQXx04 mQXx05 mPv0 mPv1 mPv2 mPv3 mPv4 mPv5; have mQXx00 : w9.cell? ⟨X8, 0, none⟩ = some (.slice (some ⟨g5, 0, none⟩) vl1 vl1) := (unhide K).2.2.2.c 0 (by simp); have mQXx01 : w9.cell? ⟨X8, 1, none⟩ = some (.slice (some ⟨g6, 0, none⟩) vl2 vl2) := (unhide K).2.2.2.c 1 (by simp); have mQXx02 : w9.cell? ⟨X8, 2, none⟩ = some (.slice (some ⟨g7, 0, none⟩) vl3 vl3) := (unhide K).2.2.2.c 2 (by simp); have mQXx03 : w9.cell? ⟨X8, 3, none⟩ = some (.int .i64 nh) := (unhide K).2.2.2.c 3 (by simp); have mQXx04 : w9.cell? ⟨X8, 4, none⟩ = some (.int .i64 nc) := (unhide K).2.2.2.c 4 (by simp); have mQXx05 : w9.cell? ⟨X8, 5, none⟩ = some (.int .i64 nd) := (unhide K).2.2.2.c 5 (by simp); have mPv0 : w9.cell? ⟨w.heap.size, 0, none⟩ = some (.slice va1 vl1 vc1) := (unhide K).2.1.c 0 (by simp); have mPv1 : w9.cell? ⟨w.heap.size, 1, none⟩ = some (.slice va2 vl2 vc2) := (unhide K).2.1.c 1 (by simp); have mPv2 : w9.cell? ⟨w.heap.size, 2, none⟩ = some (.slice va3 vl3 vc3) := (unhide K).2.1.c 2 (by simp); have mPv3 : w9.cell? ⟨w.heap.size, 3, none⟩ = some (.int .i64 nh) := (unhide K).2.1.c 3 (by simp); have mPv4 : w9.cell? ⟨w.heap.size, 4, none⟩ = some (.int .i64 nc) := (unhide K).2.1.c 4 (by simp); have mPv5 : w9.cell? ⟨w.heap.size, 5, none⟩ = some (.int .i64 nd) := (unhide K).2.1.c 5 (by simp); clear b)))
  clear mQXx00 mQXx01 mQXx02 mQXx03 mQXx04 mQXx05 mPv0 mPv1 mPv2 mPv3 mPv4 mPv5
  have mPv0 : w9.cell? ⟨w.heap.size, 0, none⟩ = some (.slice va1 vl1 vc1) := (unhide K).2.1.c 0 (by simp)
  have mPv1 : w9.cell? ⟨w.heap.size, 1, none⟩ = some (.slice va2 vl2 vc2) := (unhide K).2.1.c 1 (by simp)
  have mPv2 : w9.cell? ⟨w.heap.size, 2, none⟩ = some (.slice va3 vl3 vc3) := (unhide K).2.1.c 2 (by simp)
  have mPv3 : w9.cell? ⟨w.heap.size, 3, none⟩ = some (.int .i64 nh) := (unhide K).2.1.c 3 (by simp)
  have mPv4 : w9.cell? ⟨w.heap.size, 4, none⟩ = some (.int .i64 nc) := (unhide K).2.1.c 4 (by simp)
  have mPv5 : w9.cell? ⟨w.heap.size, 5, none⟩ = some (.int .i64 nd) := (unhide K).2.1.c 5 (by simp)
  have mQXx00 : w9.cell? ⟨X8, 0, none⟩ = some (.slice (some ⟨g5, 0, none⟩) vl1 vl1) := (unhide K).2.2.2.c 0 (by simp)
  have mQXx01 : w9.cell? ⟨X8, 1, none⟩ = some (.slice (some ⟨g6, 0, none⟩) vl2 vl2) := (unhide K).2.2.2.c 1 (by simp)
  have mQXx02 : w9.cell? ⟨X8, 2, none⟩ = some (.slice (some ⟨g7, 0, none⟩) vl3 vl3) := (unhide K).2.2.2.c 2 (by simp)
  have mQXx03 : w9.cell? ⟨X8, 3, none⟩ = some (.int .i64 nh) := (unhide K).2.2.2.c 3 (by simp)
  have mQXx04 : w9.cell? ⟨X8, 4, none⟩ = some (.int .i64 nc) := (unhide K).2.2.2.c 4 (by simp)
  have mQXx05 : w9.cell? ⟨X8, 5, none⟩ = some (.int .i64 nd) := (unhide K).2.2.2.c 5 (by simp)
  go_wp2_with fail
  clear mPv0 mPv1 mPv2 mPv3 mPv4 mPv5 mQXx00 mQXx01 mQXx02 mQXx03 mQXx04 mQXx05
  go_ret
  exact ⟨rfl, (unhide K).1⟩
end Go.Proofs.Ytilahgifaglekbc
