/-
  The law FnExactNearest returns true at every argument and writes nothing that was there: the walk. No condition.
-/
import Derived.Test.YtbaocifpifbldaxToAv
import Derived.Test.YtbaocifpifbldaxRowTc
import Derived.Test.YtbaocifpifbldaxTaNear
import Derived.Test.YtbaocifpifbldaxOnly
import Derived.Deep.RegionHeld3
namespace Go.Proofs.Ytbaocifpifbldax
open Go.RowKit
set_option maxRecDepth 20000 in
set_option maxHeartbeats 8000000 in
theorem lawNearest (vi vh vc vs : Int) (da1 : Option Addr) (dl1 dc1 : Nat) (ps : List Tc) (near : Int) (wi : Int) (w : World) (hrd : RowE 6 tcC w da1 dl1 ps)  :
    Calls Try.prog 7 #[.agg #[.int .i64 vi, .int .i64 vh, .int .i64 vc, .int .i64 vs], .slice da1 dl1 dc1, .int .i64 near, .int .i64 wi] w fun x w' => x = .returned (.bool true) ∧ Below w.heap.size w w' := by
  have Rd := hide hrd
  have smd1 := hrd.small
  have Ed1 := hide hrd.len_eq
  clear hrd
  have hq : (nrI vi vh vc vs near wi ps != nrI vi vh vc vs near wi ps) = false := by simp
  have hq2 : (nrB vi vh vc vs near wi ps != nrB vi vh vc vs near wi ps) = false := by simp
  go_enter Try.func7, Try.ntmps7
  go_wp2_with fail
  obtain ⟨w1, hw1⟩ : ∃ W, W = (w.alloc (Obj.cells #[.int .i64 vi, .int .i64 vh, .int .i64 vc, .int .i64 vs] 30)) := ⟨_, rfl⟩
  rw [← hw1]
  have K : Hid (Below w.heap.size w w1 ∧ Blk w1 w.heap.size [.int .i64 vi, .int .i64 vh, .int .i64 vc, .int .i64 vs]) := hide ⟨(by rw [hw1]; exact bel1 _), (by rw [hw1]; exact Blk.new _ _)⟩
  have S0 : Hid (w.heap.size + 1 ≤ w1.heap.size) := hide (by rw [hw1]; simp; try omega)
  clear hw1
  have KEPT : Hid (∀ W u3, (Below w.heap.size w W ∧ Blk W w.heap.size [.int .i64 vi, .int .i64 vh, .int .i64 vc, .int .i64 vs]) → Below W.heap.size W u3 → (Below w.heap.size w u3 ∧ Blk u3 w.heap.size [.int .i64 vi, .int .i64 vh, .int .i64 vc, .int .i64 vs])) := hide (fun W u3 h b => ⟨h.1.trans (b.mono h.1.size), h.2.below b⟩)
  refine (szTrackS_any _ _ _ 1048576 _ smd1 (by omega) (by omega)).mono ?_
  rintro x w2 ⟨⟨r1, rfl, hl⟩, b⟩
  have S1 : Hid (w1.heap.size ≤ w2.heap.size) := hide b.size
  have K : Hid (Below w.heap.size w w2 ∧ Blk w2 w.heap.size [.int .i64 vi, .int .i64 vh, .int .i64 vc, .int .i64 vs]) := hide ((unhide KEPT) _ _ (unhide K) b)
  clear b
  rcases hl with hl | ⟨hl, hle, hd1⟩
  · go_wp2_with fail
    go_ret
    exact ⟨rfl, (unhide K).1⟩
  have nr1 : ¬ r1 < 0 := by omega
  have mPo0 : w2.cell? ⟨w.heap.size, 0, none⟩ = some (.int .i64 vi) := (unhide K).2.c 0 (by simp)
  have mPo1 : w2.cell? ⟨w.heap.size, 1, none⟩ = some (.int .i64 vh) := (unhide K).2.c 1 (by simp)
  have mPo2 : w2.cell? ⟨w.heap.size, 2, none⟩ = some (.int .i64 vc) := (unhide K).2.c 2 (by simp)
  have mPo3 : w2.cell? ⟨w.heap.size, 3, none⟩ = some (.int .i64 vs) := (unhide K).2.c 3 (by simp)
  go_wp2_with fail
  clear mPo0 mPo1 mPo2 mPo3
  refine (toOwn_any _ _ _ _ _).mono ?_
  rintro x w3 ⟨rfl, b⟩
  have S2 : Hid (w2.heap.size ≤ w3.heap.size) := hide b.size
  have K : Hid (Below w.heap.size w w3 ∧ Blk w3 w.heap.size [.int .i64 vi, .int .i64 vh, .int .i64 vc, .int .i64 vs]) := hide ((unhide KEPT) _ _ (unhide K) b)
  clear b
  have mPo0 : w3.cell? ⟨w.heap.size, 0, none⟩ = some (.int .i64 vi) := (unhide K).2.c 0 (by simp)
  have mPo1 : w3.cell? ⟨w.heap.size, 1, none⟩ = some (.int .i64 vh) := (unhide K).2.c 1 (by simp)
  have mPo2 : w3.cell? ⟨w.heap.size, 2, none⟩ = some (.int .i64 vc) := (unhide K).2.c 2 (by simp)
  have mPo3 : w3.cell? ⟨w.heap.size, 3, none⟩ = some (.int .i64 vs) := (unhide K).2.c 3 (by simp)
  go_wp2_with fail
  clear mPo0 mPo1 mPo2 mPo3
  obtain ⟨g2, hg2⟩ : ∃ G, w3.heap.size = G := ⟨_, rfl⟩
  refine (toTrackS_own _ _ _ _ _ ((unhide Rd).below (unhide K).1) hd1).mono ?_
  rintro x w4 ⟨rfl, oc, b⟩
  rw [hg2] at oc ⊢
  have Bg2 := hide hg2
  clear hg2
  have LT4 : Hid (∀ g, (Value.slice (some ⟨g2, 0, none⟩) dl1 dl1).ownBlock = some g → w3.heap.size ≤ g ∧ g < w4.heap.size) := hide (by have e := unhide Bg2; have l := oc.lies; rw [← e] at l ⊢; exact l)
  have S3 : Hid (w3.heap.size ≤ w4.heap.size) := hide b.size
  have K : Hid (Below w.heap.size w w4 ∧ Blk w4 w.heap.size [.int .i64 vi, .int .i64 vh, .int .i64 vc, .int .i64 vs]) := hide ((unhide KEPT) _ _ (unhide K) b)
  have K : Hid (Below w.heap.size w w4 ∧ Blk w4 w.heap.size [.int .i64 vi, .int .i64 vh, .int .i64 vc, .int .i64 vs] ∧ OwnE 6 tcC w4 w3.heap.size 26 (.slice (some ⟨g2, 0, none⟩) dl1 dl1) ps) := hide ⟨(unhide K).1, (unhide K).2, (by have e := unhide Bg2; rw [e]; exact oc)⟩
  clear KEPT oc b
  have KEPT : Hid (∀ W u3, (Below w.heap.size w W ∧ Blk W w.heap.size [.int .i64 vi, .int .i64 vh, .int .i64 vc, .int .i64 vs] ∧ OwnE 6 tcC W w3.heap.size 26 (.slice (some ⟨g2, 0, none⟩) dl1 dl1) ps) → Below W.heap.size W u3 → (Below w.heap.size w u3 ∧ Blk u3 w.heap.size [.int .i64 vi, .int .i64 vh, .int .i64 vc, .int .i64 vs] ∧ OwnE 6 tcC u3 w3.heap.size 26 (.slice (some ⟨g2, 0, none⟩) dl1 dl1) ps)) := hide (fun W u3 h b => ⟨h.1.trans (b.mono h.1.size), h.2.1.below b, h.2.2.below b⟩)
  have mPo0 : w4.cell? ⟨w.heap.size, 0, none⟩ = some (.int .i64 vi) := (unhide K).2.1.c 0 (by simp)
  have mPo1 : w4.cell? ⟨w.heap.size, 1, none⟩ = some (.int .i64 vh) := (unhide K).2.1.c 1 (by simp)
  have mPo2 : w4.cell? ⟨w.heap.size, 2, none⟩ = some (.int .i64 vc) := (unhide K).2.1.c 2 (by simp)
  have mPo3 : w4.cell? ⟨w.heap.size, 3, none⟩ = some (.int .i64 vs) := (unhide K).2.1.c 3 (by simp)
  go_wp2_with fail
  clear mPo0 mPo1 mPo2 mPo3
  refine (specNearest_any _ _ _ _ _ _ _ _ _ _ _ (unhide K).2.2.row ).mono ?_
  rintro x w5 ⟨rfl, b⟩
  have S4 : Hid (w4.heap.size ≤ w5.heap.size) := hide b.size
  have K : Hid (Below w.heap.size w w5 ∧ Blk w5 w.heap.size [.int .i64 vi, .int .i64 vh, .int .i64 vc, .int .i64 vs] ∧ OwnE 6 tcC w5 w3.heap.size 26 (.slice (some ⟨g2, 0, none⟩) dl1 dl1) ps) := hide ((unhide KEPT) _ _ (unhide K) b)
  clear b
  have K : Hid (Below w.heap.size w w5 ∧ Blk w5 w.heap.size [.int .i64 vi, .int .i64 vh, .int .i64 vc, .int .i64 vs]) := hide ⟨(unhide K).1, (unhide K).2.1⟩
  clear KEPT
  have KEPT : Hid (∀ W u3, (Below w.heap.size w W ∧ Blk W w.heap.size [.int .i64 vi, .int .i64 vh, .int .i64 vc, .int .i64 vs]) → Below W.heap.size W u3 → (Below w.heap.size w u3 ∧ Blk u3 w.heap.size [.int .i64 vi, .int .i64 vh, .int .i64 vc, .int .i64 vs])) := hide (fun W u3 h b => ⟨h.1.trans (b.mono h.1.size), h.2.below b⟩)
  have mPo0 : w5.cell? ⟨w.heap.size, 0, none⟩ = some (.int .i64 vi) := (unhide K).2.c 0 (by simp)
  have mPo1 : w5.cell? ⟨w.heap.size, 1, none⟩ = some (.int .i64 vh) := (unhide K).2.c 1 (by simp)
  have mPo2 : w5.cell? ⟨w.heap.size, 2, none⟩ = some (.int .i64 vc) := (unhide K).2.c 2 (by simp)
  have mPo3 : w5.cell? ⟨w.heap.size, 3, none⟩ = some (.int .i64 vs) := (unhide K).2.c 3 (by simp)
  go_wp2_with fail
  clear mPo0 mPo1 mPo2 mPo3
  obtain ⟨g3, hg3⟩ : ∃ G, w5.heap.size = G := ⟨_, rfl⟩
  refine (toTrackS_own _ _ _ _ _ ((unhide Rd).below (unhide K).1) hd1).mono ?_
  rintro x w6 ⟨rfl, oc, b⟩
  rw [hg3] at oc ⊢
  have Bg3 := hide hg3
  clear hg3
  have LXx1 : Hid (∀ g, (Value.slice (some ⟨g3, 0, none⟩) dl1 dl1).ownBlock = some g → w5.heap.size ≤ g ∧ g < w6.heap.size) := hide (by have e := unhide Bg3; have l := oc.lies; rw [← e] at l ⊢; exact l)
  have S5 : Hid (w5.heap.size ≤ w6.heap.size) := hide b.size
  have K : Hid (Below w.heap.size w w6 ∧ Blk w6 w.heap.size [.int .i64 vi, .int .i64 vh, .int .i64 vc, .int .i64 vs]) := hide ((unhide KEPT) _ _ (unhide K) b)
  have K : Hid (Below w.heap.size w w6 ∧ Blk w6 w.heap.size [.int .i64 vi, .int .i64 vh, .int .i64 vc, .int .i64 vs] ∧ OwnE 6 tcC w6 w5.heap.size 26 (.slice (some ⟨g3, 0, none⟩) dl1 dl1) ps) := hide ⟨(unhide K).1, (unhide K).2, (by have e := unhide Bg3; rw [e]; exact oc)⟩
  clear KEPT oc b
  have KEPT : Hid (∀ W u3, (Below w.heap.size w W ∧ Blk W w.heap.size [.int .i64 vi, .int .i64 vh, .int .i64 vc, .int .i64 vs] ∧ OwnE 6 tcC W w5.heap.size 26 (.slice (some ⟨g3, 0, none⟩) dl1 dl1) ps) → Below W.heap.size W u3 → (Below w.heap.size w u3 ∧ Blk u3 w.heap.size [.int .i64 vi, .int .i64 vh, .int .i64 vc, .int .i64 vs] ∧ OwnE 6 tcC u3 w5.heap.size 26 (.slice (some ⟨g3, 0, none⟩) dl1 dl1) ps)) := hide (fun W u3 h b => ⟨h.1.trans (b.mono h.1.size), h.2.1.below b, h.2.2.below b⟩)
  have mPo0 : w6.cell? ⟨w.heap.size, 0, none⟩ = some (.int .i64 vi) := (unhide K).2.1.c 0 (by simp)
  have mPo1 : w6.cell? ⟨w.heap.size, 1, none⟩ = some (.int .i64 vh) := (unhide K).2.1.c 1 (by simp)
  have mPo2 : w6.cell? ⟨w.heap.size, 2, none⟩ = some (.int .i64 vc) := (unhide K).2.1.c 2 (by simp)
  have mPo3 : w6.cell? ⟨w.heap.size, 3, none⟩ = some (.int .i64 vs) := (unhide K).2.1.c 3 (by simp)
  go_wp2_with fail
  clear mPo0 mPo1 mPo2 mPo3
  refine (toOwn_any _ _ _ _ _).mono ?_
  rintro x w7 ⟨rfl, b⟩
  have S6 : Hid (w6.heap.size ≤ w7.heap.size) := hide b.size
  have K : Hid (Below w.heap.size w w7 ∧ Blk w7 w.heap.size [.int .i64 vi, .int .i64 vh, .int .i64 vc, .int .i64 vs] ∧ OwnE 6 tcC w7 w5.heap.size 26 (.slice (some ⟨g3, 0, none⟩) dl1 dl1) ps) := hide ((unhide KEPT) _ _ (unhide K) b)
  clear b
  have mPo0 : w7.cell? ⟨w.heap.size, 0, none⟩ = some (.int .i64 vi) := (unhide K).2.1.c 0 (by simp)
  have mPo1 : w7.cell? ⟨w.heap.size, 1, none⟩ = some (.int .i64 vh) := (unhide K).2.1.c 1 (by simp)
  have mPo2 : w7.cell? ⟨w.heap.size, 2, none⟩ = some (.int .i64 vc) := (unhide K).2.1.c 2 (by simp)
  have mPo3 : w7.cell? ⟨w.heap.size, 3, none⟩ = some (.int .i64 vs) := (unhide K).2.1.c 3 (by simp)
  go_wp2_with fail
  clear mPo0 mPo1 mPo2 mPo3
  refine (implNearest_any _ _ _ _ _ _ _ _ _ _ _ (unhide K).2.2.row ).mono ?_
  rintro x w8 ⟨rfl, b⟩
  have S7 : Hid (w7.heap.size ≤ w8.heap.size) := hide b.size
  have K : Hid (Below w.heap.size w w8 ∧ Blk w8 w.heap.size [.int .i64 vi, .int .i64 vh, .int .i64 vc, .int .i64 vs] ∧ OwnE 6 tcC w8 w5.heap.size 26 (.slice (some ⟨g3, 0, none⟩) dl1 dl1) ps) := hide ((unhide KEPT) _ _ (unhide K) b)
  clear b
  have mPo0 : w8.cell? ⟨w.heap.size, 0, none⟩ = some (.int .i64 vi) := (unhide K).2.1.c 0 (by simp)
  have mPo1 : w8.cell? ⟨w.heap.size, 1, none⟩ = some (.int .i64 vh) := (unhide K).2.1.c 1 (by simp)
  have mPo2 : w8.cell? ⟨w.heap.size, 2, none⟩ = some (.int .i64 vc) := (unhide K).2.1.c 2 (by simp)
  have mPo3 : w8.cell? ⟨w.heap.size, 3, none⟩ = some (.int .i64 vs) := (unhide K).2.1.c 3 (by simp)
  go_wp2_with fail
  clear mPo0 mPo1 mPo2 mPo3
  obtain ⟨g4, hg4⟩ : ∃ G, w8.heap.size = G := ⟨_, rfl⟩
  refine (toTrackS_own _ _ _ _ _ ((unhide Rd).below (unhide K).1) hd1).mono ?_
  rintro x w9 ⟨rfl, oc, b⟩
  rw [hg4] at oc ⊢
  have Bg4 := hide hg4
  clear hg4
  have IC := hide oc.row
  have S8 : Hid (w8.heap.size ≤ w9.heap.size) := hide b.size
  have K : Hid (Below w.heap.size w w9 ∧ Blk w9 w.heap.size [.int .i64 vi, .int .i64 vh, .int .i64 vc, .int .i64 vs] ∧ OwnE 6 tcC w9 w5.heap.size 26 (.slice (some ⟨g3, 0, none⟩) dl1 dl1) ps) := hide ((unhide KEPT) _ _ (unhide K) b)
  clear oc b
  have mPo0 : w9.cell? ⟨w.heap.size, 0, none⟩ = some (.int .i64 vi) := (unhide K).2.1.c 0 (by simp)
  have mPo1 : w9.cell? ⟨w.heap.size, 1, none⟩ = some (.int .i64 vh) := (unhide K).2.1.c 1 (by simp)
  have mPo2 : w9.cell? ⟨w.heap.size, 2, none⟩ = some (.int .i64 vc) := (unhide K).2.1.c 2 (by simp)
  have mPo3 : w9.cell? ⟨w.heap.size, 3, none⟩ = some (.int .i64 vs) := (unhide K).2.1.c 3 (by simp)
  go_wp2_with fail
  clear mPo0 mPo1 mPo2 mPo3
  refine (eqTrackS_same _ _ _ _ _ _ _ _ (unhide K).2.2.row (unhide IC)).mono ?_
  rintro x w10 ⟨rfl, b⟩
  have S9 : Hid (w9.heap.size ≤ w10.heap.size) := hide b.size
  have K : Hid (Below w.heap.size w w10 ∧ Blk w10 w.heap.size [.int .i64 vi, .int .i64 vh, .int .i64 vc, .int .i64 vs] ∧ OwnE 6 tcC w10 w5.heap.size 26 (.slice (some ⟨g3, 0, none⟩) dl1 dl1) ps) := hide ((unhide KEPT) _ _ (unhide K) b)
  clear b IC
  have mPo0 : w10.cell? ⟨w.heap.size, 0, none⟩ = some (.int .i64 vi) := (unhide K).2.1.c 0 (by simp)
  have mPo1 : w10.cell? ⟨w.heap.size, 1, none⟩ = some (.int .i64 vh) := (unhide K).2.1.c 1 (by simp)
  have mPo2 : w10.cell? ⟨w.heap.size, 2, none⟩ = some (.int .i64 vc) := (unhide K).2.1.c 2 (by simp)
  have mPo3 : w10.cell? ⟨w.heap.size, 3, none⟩ = some (.int .i64 vs) := (unhide K).2.1.c 3 (by simp)
  go_wp2_with fail
  clear mPo0 mPo1 mPo2 mPo3
  go_ret
  exact ⟨rfl, (unhide K).1⟩
end Go.Proofs.Ytbaocifpifbldax
