/-
  The law FnExactAboardOk returns true at every argument and writes nothing that was there: the walk. No condition.
-/
import Derived.Test.YtlpomplldgmkmbaAbSpec
import Derived.Test.YtlpomplldgmkmbaAi2
import Derived.Test.YtlpomplldgmkmbaOnly
import Derived.Deep.RegionHeld3
namespace Go.Proofs.Ytlpomplldgmkmba
open Go.RowKit
set_option maxRecDepth 20000 in
set_option maxHeartbeats 8000000 in
theorem lawAboardOk (sn : Int) (da1 : Option Addr) (dl1 dc1 : Nat) (zs : List Lc) (w : World) (hrd : AbIn w da1 dl1 zs)  :
    Calls Try.prog 6 #[.agg #[.int .i64 sn, .slice da1 dl1 dc1]] w fun x w' => x = .returned (.bool true) ∧ Below w.heap.size w w' := by
  have Rd := hide hrd
  have smd1 := hrd.r1.small
  have Ed1 := hide hrd.r1.len_eq
  clear hrd
  have hq : (abB sn zs != abB sn zs) = false := by simp
  go_enter Try.func6, Try.ntmps6
  go_wp2_with fail
  obtain ⟨w1, hw1⟩ : ∃ W, W = (w.alloc (Obj.cells #[.int .i64 sn, .slice da1 dl1 dc1] 52)) := ⟨_, rfl⟩
  rw [← hw1]
  have K : Hid (Below w.heap.size w w1 ∧ Blk w1 w.heap.size [.int .i64 sn, .slice da1 dl1 dc1]) := hide ⟨(by rw [hw1]; exact bel1 _), (by rw [hw1]; exact Blk.new _ _)⟩
  have S0 : Hid (w.heap.size + 1 ≤ w1.heap.size) := hide (by rw [hw1]; simp; try omega)
  clear hw1
  have KEPT : Hid (∀ W u3, (Below w.heap.size w W ∧ Blk W w.heap.size [.int .i64 sn, .slice da1 dl1 dc1]) → Below W.heap.size W u3 → (Below w.heap.size w u3 ∧ Blk u3 w.heap.size [.int .i64 sn, .slice da1 dl1 dc1])) := hide (fun W u3 h b => ⟨h.1.trans (b.mono h.1.size), h.2.below b⟩)
  refine (szAboard_any _ _ _ _ _ 1048576 _ ((unhide Rd).below (unhide K).1) (by omega) (by omega)).mono ?_
  rintro x w2 ⟨⟨r1, rfl, hl⟩, b⟩
  have S1 : Hid (w1.heap.size ≤ w2.heap.size) := hide b.size
  have K : Hid (Below w.heap.size w w2 ∧ Blk w2 w.heap.size [.int .i64 sn, .slice da1 dl1 dc1]) := hide ((unhide KEPT) _ _ (unhide K) b)
  clear b
  rcases hl with hl | ⟨hl, hle, hd1⟩
  · go_wp2_with fail
    go_ret
    exact ⟨rfl, (unhide K).1⟩
  have nr1 : ¬ r1 < 0 := by omega
  have mPd0 : w2.cell? ⟨w.heap.size, 0, none⟩ = some (.int .i64 sn) := (unhide K).2.c 0 (by simp)
  have mPd1 : w2.cell? ⟨w.heap.size, 1, none⟩ = some (.slice da1 dl1 dc1) := (unhide K).2.c 1 (by simp)
  go_wp2_with fail
  clear mPd0 mPd1
  refine (toAboard_own _ _ _ _ _ _ ((unhide Rd).below (unhide K).1) hd1).mono ?_
  rintro x w3 ⟨⟨g2, rfl, oc⟩, b⟩
  have LT3 : Hid (AbLies w2.heap.size w3.heap.size (some ⟨g2, 0, none⟩) dl1 dl1) := hide oc.lies
  have S2 : Hid (w2.heap.size ≤ w3.heap.size) := hide b.size
  have K : Hid (Below w.heap.size w w3 ∧ Blk w3 w.heap.size [.int .i64 sn, .slice da1 dl1 dc1]) := hide ((unhide KEPT) _ _ (unhide K) b)
  have K : Hid (Below w.heap.size w w3 ∧ Blk w3 w.heap.size [.int .i64 sn, .slice da1 dl1 dc1] ∧ AbOwn w3 w2.heap.size (some ⟨g2, 0, none⟩) dl1 dl1 zs) := hide ⟨(unhide K).1, (unhide K).2, oc⟩
  clear KEPT oc b
  have KEPT : Hid (∀ W u3, (Below w.heap.size w W ∧ Blk W w.heap.size [.int .i64 sn, .slice da1 dl1 dc1] ∧ AbOwn W w2.heap.size (some ⟨g2, 0, none⟩) dl1 dl1 zs) → Below W.heap.size W u3 → (Below w.heap.size w u3 ∧ Blk u3 w.heap.size [.int .i64 sn, .slice da1 dl1 dc1] ∧ AbOwn u3 w2.heap.size (some ⟨g2, 0, none⟩) dl1 dl1 zs)) := hide (fun W u3 h b => ⟨h.1.trans (b.mono h.1.size), h.2.1.below b, h.2.2.below b⟩)
  have mPd0 : w3.cell? ⟨w.heap.size, 0, none⟩ = some (.int .i64 sn) := (unhide K).2.1.c 0 (by simp)
  have mPd1 : w3.cell? ⟨w.heap.size, 1, none⟩ = some (.slice da1 dl1 dc1) := (unhide K).2.1.c 1 (by simp)
  go_wp2_with fail
  clear mPd0 mPd1
  refine (specAboardOk_any _ _ _ _ _ _ (unhide K).2.2.read ).mono ?_
  rintro x w4 ⟨rfl, b⟩
  have S3 : Hid (w3.heap.size ≤ w4.heap.size) := hide b.size
  have K : Hid (Below w.heap.size w w4 ∧ Blk w4 w.heap.size [.int .i64 sn, .slice da1 dl1 dc1] ∧ AbOwn w4 w2.heap.size (some ⟨g2, 0, none⟩) dl1 dl1 zs) := hide ((unhide KEPT) _ _ (unhide K) b)
  clear b
  have K : Hid (Below w.heap.size w w4 ∧ Blk w4 w.heap.size [.int .i64 sn, .slice da1 dl1 dc1]) := hide ⟨(unhide K).1, (unhide K).2.1⟩
  clear KEPT
  have KEPT : Hid (∀ W u3, (Below w.heap.size w W ∧ Blk W w.heap.size [.int .i64 sn, .slice da1 dl1 dc1]) → Below W.heap.size W u3 → (Below w.heap.size w u3 ∧ Blk u3 w.heap.size [.int .i64 sn, .slice da1 dl1 dc1])) := hide (fun W u3 h b => ⟨h.1.trans (b.mono h.1.size), h.2.below b⟩)
  have mPd0 : w4.cell? ⟨w.heap.size, 0, none⟩ = some (.int .i64 sn) := (unhide K).2.c 0 (by simp)
  have mPd1 : w4.cell? ⟨w.heap.size, 1, none⟩ = some (.slice da1 dl1 dc1) := (unhide K).2.c 1 (by simp)
  go_wp2_with fail
  clear mPd0 mPd1
  refine (toAboard_own _ _ _ _ _ _ ((unhide Rd).below (unhide K).1) hd1).mono ?_
  rintro x w5 ⟨⟨g3, rfl, oc⟩, b⟩
  have LXx0 : Hid (AbLies w4.heap.size w5.heap.size (some ⟨g3, 0, none⟩) dl1 dl1) := hide oc.lies
  have S4 : Hid (w4.heap.size ≤ w5.heap.size) := hide b.size
  have K : Hid (Below w.heap.size w w5 ∧ Blk w5 w.heap.size [.int .i64 sn, .slice da1 dl1 dc1]) := hide ((unhide KEPT) _ _ (unhide K) b)
  have K : Hid (Below w.heap.size w w5 ∧ Blk w5 w.heap.size [.int .i64 sn, .slice da1 dl1 dc1] ∧ AbOwn w5 w4.heap.size (some ⟨g3, 0, none⟩) dl1 dl1 zs) := hide ⟨(unhide K).1, (unhide K).2, oc⟩
  clear KEPT oc b
  have KEPT : Hid (∀ W u3, (Below w.heap.size w W ∧ Blk W w.heap.size [.int .i64 sn, .slice da1 dl1 dc1] ∧ AbOwn W w4.heap.size (some ⟨g3, 0, none⟩) dl1 dl1 zs) → Below W.heap.size W u3 → (Below w.heap.size w u3 ∧ Blk u3 w.heap.size [.int .i64 sn, .slice da1 dl1 dc1] ∧ AbOwn u3 w4.heap.size (some ⟨g3, 0, none⟩) dl1 dl1 zs)) := hide (fun W u3 h b => ⟨h.1.trans (b.mono h.1.size), h.2.1.below b, h.2.2.below b⟩)
  obtain ⟨w6, hw6⟩ : ∃ V, V = w5.alloc (Obj.cells #[.int .i64 sn, .slice (some ⟨g3, 0, none⟩) dl1 dl1] 57) := ⟨_, rfl⟩
  have b : Below w5.heap.size w5 w6 := by rw [hw6]; exact bel1 _
  have kx : Blk w6 w5.heap.size [.int .i64 sn, .slice (some ⟨g3, 0, none⟩) dl1 dl1] := by rw [hw6]; exact Blk.new _ _
  have S5 : Hid (w5.heap.size + 1 ≤ w6.heap.size) := hide (by rw [hw6]; simp)
  have S6 : Hid (w5.heap.size ≤ w6.heap.size) := hide b.size
  have K : Hid (Below w.heap.size w w6 ∧ Blk w6 w.heap.size [.int .i64 sn, .slice da1 dl1 dc1] ∧ AbOwn w6 w4.heap.size (some ⟨g3, 0, none⟩) dl1 dl1 zs) := hide ((unhide KEPT) _ _ (unhide K) b)
  have mPd0 : w6.cell? ⟨w.heap.size, 0, none⟩ = some (.int .i64 sn) := (unhide K).2.1.c 0 (by simp)
  have mPd1 : w6.cell? ⟨w.heap.size, 1, none⟩ = some (.slice da1 dl1 dc1) := (unhide K).2.1.c 1 (by simp)
  rw [hw6] at mPd0 mPd1
  obtain ⟨X4, hX4⟩ : ∃ X, w5.heap.size = X := ⟨_, rfl⟩
  rw [hX4] at kx
  have S7 : Hid (w5.heap.size = X4) := hide hX4
  have K : Hid (Below w.heap.size w w6 ∧ Blk w6 w.heap.size [.int .i64 sn, .slice da1 dl1 dc1] ∧ AbOwn w6 w4.heap.size (some ⟨g3, 0, none⟩) dl1 dl1 zs ∧ Blk w6 X4 [.int .i64 sn, .slice (some ⟨g3, 0, none⟩) dl1 dl1]) := hide ⟨(unhide K).1, (unhide K).2.1, (unhide K).2.2, kx⟩
  clear KEPT b kx
  have KEPT : Hid (∀ W u3, (Below w.heap.size w W ∧ Blk W w.heap.size [.int .i64 sn, .slice da1 dl1 dc1] ∧ AbOwn W w4.heap.size (some ⟨g3, 0, none⟩) dl1 dl1 zs ∧ Blk W X4 [.int .i64 sn, .slice (some ⟨g3, 0, none⟩) dl1 dl1]) → Below W.heap.size W u3 → (Below w.heap.size w u3 ∧ Blk u3 w.heap.size [.int .i64 sn, .slice da1 dl1 dc1] ∧ AbOwn u3 w4.heap.size (some ⟨g3, 0, none⟩) dl1 dl1 zs ∧ Blk u3 X4 [.int .i64 sn, .slice (some ⟨g3, 0, none⟩) dl1 dl1])) := hide (fun W u3 h b => ⟨h.1.trans (b.mono h.1.size), h.2.1.below b, h.2.2.1.below b, h.2.2.2.below b⟩)
  have Hw6 := hide hw6
  have HX4 := hide hX4
  clear hw6 hX4
  go_wp2_with fail
  try rw [← unhide Hw6]
  try rw [unhide HX4]
  clear Hw6 HX4 mPd0 mPd1
  refine (implAboardOk_any _ _ _ _ _ _ (unhide K).2.2.1.read ).mono ?_
  rintro x w7 ⟨rfl, b⟩
  have S8 : Hid (w6.heap.size ≤ w7.heap.size) := hide b.size
  have K : Hid (Below w.heap.size w w7 ∧ Blk w7 w.heap.size [.int .i64 sn, .slice da1 dl1 dc1] ∧ AbOwn w7 w4.heap.size (some ⟨g3, 0, none⟩) dl1 dl1 zs ∧ Blk w7 X4 [.int .i64 sn, .slice (some ⟨g3, 0, none⟩) dl1 dl1]) := hide ((unhide KEPT) _ _ (unhide K) b)
  clear b
  have mPd0 : w7.cell? ⟨w.heap.size, 0, none⟩ = some (.int .i64 sn) := (unhide K).2.1.c 0 (by simp)
  have mPd1 : w7.cell? ⟨w.heap.size, 1, none⟩ = some (.slice da1 dl1 dc1) := (unhide K).2.1.c 1 (by simp)
  have mQXx00 : w7.cell? ⟨X4, 0, none⟩ = some (.int .i64 sn) := (unhide K).2.2.2.c 0 (by simp)
  have mQXx01 : w7.cell? ⟨X4, 1, none⟩ = some (.slice (some ⟨g3, 0, none⟩) dl1 dl1) := (unhide K).2.2.2.c 1 (by simp)
  go_wp2_with fail
  clear mPd0 mPd1 mQXx00 mQXx01
  have mQXx00 : w7.cell? ⟨X4, 0, none⟩ = some (.int .i64 sn) := (unhide K).2.2.2.c 0 (by simp)
  have mQXx01 : w7.cell? ⟨X4, 1, none⟩ = some (.slice (some ⟨g3, 0, none⟩) dl1 dl1) := (unhide K).2.2.2.c 1 (by simp)
  have mPd0 : w7.cell? ⟨w.heap.size, 0, none⟩ = some (.int .i64 sn) := (unhide K).2.1.c 0 (by simp)
  have mPd1 : w7.cell? ⟨w.heap.size, 1, none⟩ = some (.slice da1 dl1 dc1) := (unhide K).2.1.c 1 (by simp)
  go_region_held3 (fun w' => w'.cell? ⟨X4, 0, none⟩ = some (.int .i64 sn) ∧ w'.cell? ⟨X4, 1, none⟩ = some (.slice (some ⟨g3, 0, none⟩) dl1 dl1) ∧ w'.cell? ⟨w.heap.size, 0, none⟩ = some (.int .i64 sn) ∧ w'.cell? ⟨w.heap.size, 1, none⟩ = some (.slice da1 dl1 dc1)) (go_keep)
    ((first
      | (go_at_call 24; refine (toAboard_own _ _ _ _ _ _ (by first | exact (unhide Rd).below (unhide K).1 | exact ((unhide Rd).below (unhide K).1).below (bel0d 1)) hd1).mono ?_; rintro x w8 ⟨⟨e5, rfl, oc⟩, b⟩; have IC := hide oc.read; clear oc; have S9 : Hid (w7.heap.size ≤ w8.heap.size) := hide b.size; have K := hide (show Below w.heap.size w w8 ∧ Blk w8 w.heap.size [.int .i64 sn, .slice da1 dl1 dc1] ∧ AbOwn w8 w4.heap.size (some ⟨g3, 0, none⟩) dl1 dl1 zs ∧ Blk w8 X4 [.int .i64 sn, .slice (some ⟨g3, 0, none⟩) dl1 dl1] from by first | exact (unhide KEPT) _ _ (unhide K) b | exact (unhide KEPT) _ _ ((unhide KEPT) _ _ (unhide K) (bel0d 1)) b); clear mQXx00 mQXx01 mPd0 mPd1; have mQXx00 : w8.cell? ⟨X4, 0, none⟩ = some (.int .i64 sn) := (unhide K).2.2.2.c 0 (by simp); have mQXx01 : w8.cell? ⟨X4, 1, none⟩ = some (.slice (some ⟨g3, 0, none⟩) dl1 dl1) := (unhide K).2.2.2.c 1 (by simp); have mPd0 : w8.cell? ⟨w.heap.size, 0, none⟩ = some (.int .i64 sn) := (unhide K).2.1.c 0 (by simp); have mPd1 : w8.cell? ⟨w.heap.size, 1, none⟩ = some (.slice da1 dl1 dc1) := (unhide K).2.1.c 1 (by simp); clear b)
      | (go_at_call 26; refine (eqAboard_same _ _ _ _ _ _ _ _ (by first | exact (unhide K).2.2.1.read | exact (unhide K).2.2.1.read.below (bel0d 1)) (by first | exact unhide IC | exact (unhide IC).below (bel0d 1))).mono ?_; rintro x w9 ⟨rfl, b⟩; clear IC; have S10 : Hid (w8.heap.size ≤ w9.heap.size) := hide b.size; have K := hide (show Below w.heap.size w w9 ∧ Blk w9 w.heap.size [.int .i64 sn, .slice da1 dl1 dc1] ∧ AbOwn w9 w4.heap.size (some ⟨g3, 0, none⟩) dl1 dl1 zs ∧ Blk w9 X4 [.int .i64 sn, .slice (some ⟨g3, 0, none⟩) dl1 dl1] from by first | exact (unhide KEPT) _ _ (unhide K) b | exact (unhide KEPT) _ _ ((unhide KEPT) _ _ (unhide K) (bel0d 1)) b); clear mQXx00 mQXx01 mPd0 mPd1; have mQXx00 : w9.cell? ⟨X4, 0, none⟩ = some (.int .i64 sn) := (unhide K).2.2.2.c 0 (by simp); have mQXx01 : w9.cell? ⟨X4, 1, none⟩ = some (.slice (some ⟨g3, 0, none⟩) dl1 dl1) := (unhide K).2.2.2.c 1 (by simp); have mPd0 : w9.cell? ⟨w.heap.size, 0, none⟩ = some (.int .i64 sn) := (unhide K).2.1.c 0 (by simp); have mPd1 : w9.cell? ⟨w.heap.size, 1, none⟩ = some (.slice da1 dl1 dc1) := (unhide K).2.1.c 1 (by simp); clear b)))
  clear mQXx00 mQXx01 mPd0 mPd1
  have mPd0 : w9.cell? ⟨w.heap.size, 0, none⟩ = some (.int .i64 sn) := (unhide K).2.1.c 0 (by simp)
  have mPd1 : w9.cell? ⟨w.heap.size, 1, none⟩ = some (.slice da1 dl1 dc1) := (unhide K).2.1.c 1 (by simp)
  have mQXx00 : w9.cell? ⟨X4, 0, none⟩ = some (.int .i64 sn) := (unhide K).2.2.2.c 0 (by simp)
  have mQXx01 : w9.cell? ⟨X4, 1, none⟩ = some (.slice (some ⟨g3, 0, none⟩) dl1 dl1) := (unhide K).2.2.2.c 1 (by simp)
  go_wp2_with fail
  clear mPd0 mPd1 mQXx00 mQXx01
  go_ret
  exact ⟨rfl, (unhide K).1⟩
end Go.Proofs.Ytlpomplldgmkmba
