/-
  The law FnExactTaskOk returns true at every argument and writes nothing that was there: the walk. No condition.
-/
import Derived.Test.YtilahgifaglekbbCkSpec
import Derived.Test.YtilahgifaglekbbCkImpl
import Derived.Test.YtilahgifaglekbbCkAny
import Derived.Test.YtilahgifaglekbbTsTo
import Derived.Test.YtilahgifaglekbbOnly
import Derived.Deep.RegionHeld3
namespace Go.Proofs.Ytilahgifaglekbb
open Go.RowKit
set_option maxRecDepth 20000 in
set_option maxHeartbeats 8000000 in
theorem lawTaskOk (nm : ByteArray) (ho : Int) (cy : Int) (dy : Int) (dh : Int) (dc : Int) (dd : Int) (w : World)  (txv0 : nm.size ≤ 9223372036854775807) :
    Calls Try.prog 4 #[.agg #[.string nm, .int .i64 ho, .int .i64 cy, .int .i64 dy, .int .i64 dh, .int .i64 dc, .int .i64 dd]] w fun x w' => x = .returned (.bool true) ∧ Below w.heap.size w w' := by
  have hq : (tsB ⟨nm, ho, cy, dy, dh, dc, dd⟩ != tsB ⟨nm, ho, cy, dy, dh, dc, dd⟩) = false := by simp
  go_enter Try.func4, Try.ntmps4
  go_wp2_with fail
  obtain ⟨w1, hw1⟩ : ∃ W, W = (w.alloc (Obj.cells #[.string nm, .int .i64 ho, .int .i64 cy, .int .i64 dy, .int .i64 dh, .int .i64 dc, .int .i64 dd] 29)) := ⟨_, rfl⟩
  rw [← hw1]
  have K : Hid (Below w.heap.size w w1 ∧ Blk w1 w.heap.size [.string nm, .int .i64 ho, .int .i64 cy, .int .i64 dy, .int .i64 dh, .int .i64 dc, .int .i64 dd]) := hide ⟨(by rw [hw1]; exact bel1 _), (by rw [hw1]; exact Blk.new _ _)⟩
  have S0 : Hid (w.heap.size + 1 ≤ w1.heap.size) := hide (by rw [hw1]; simp; try omega)
  clear hw1
  have KEPT : Hid (∀ W u3, (Below w.heap.size w W ∧ Blk W w.heap.size [.string nm, .int .i64 ho, .int .i64 cy, .int .i64 dy, .int .i64 dh, .int .i64 dc, .int .i64 dd]) → Below W.heap.size W u3 → (Below w.heap.size w u3 ∧ Blk u3 w.heap.size [.string nm, .int .i64 ho, .int .i64 cy, .int .i64 dy, .int .i64 dh, .int .i64 dc, .int .i64 dd])) := hide (fun W u3 h b => ⟨h.1.trans (b.mono h.1.size), h.2.below b⟩)
  refine (szTask_any _ _ _ _ _ _ _ 1048576 _ txv0 (by omega) (by omega)).mono ?_
  rintro x w2 ⟨⟨r1, rfl, hl⟩, b⟩
  have S1 : Hid (w1.heap.size ≤ w2.heap.size) := hide b.size
  have K : Hid (Below w.heap.size w w2 ∧ Blk w2 w.heap.size [.string nm, .int .i64 ho, .int .i64 cy, .int .i64 dy, .int .i64 dh, .int .i64 dc, .int .i64 dd]) := hide ((unhide KEPT) _ _ (unhide K) b)
  clear b
  rcases hl with hl | ⟨hl, hle, hxv0⟩
  · go_wp2_with fail
    go_ret
    exact ⟨rfl, (unhide K).1⟩
  have nr1 : ¬ r1 < 0 := by omega
  have mPv0 : w2.cell? ⟨w.heap.size, 0, none⟩ = some (.string nm) := (unhide K).2.c 0 (by simp)
  have mPv1 : w2.cell? ⟨w.heap.size, 1, none⟩ = some (.int .i64 ho) := (unhide K).2.c 1 (by simp)
  have mPv2 : w2.cell? ⟨w.heap.size, 2, none⟩ = some (.int .i64 cy) := (unhide K).2.c 2 (by simp)
  have mPv3 : w2.cell? ⟨w.heap.size, 3, none⟩ = some (.int .i64 dy) := (unhide K).2.c 3 (by simp)
  have mPv4 : w2.cell? ⟨w.heap.size, 4, none⟩ = some (.int .i64 dh) := (unhide K).2.c 4 (by simp)
  have mPv5 : w2.cell? ⟨w.heap.size, 5, none⟩ = some (.int .i64 dc) := (unhide K).2.c 5 (by simp)
  have mPv6 : w2.cell? ⟨w.heap.size, 6, none⟩ = some (.int .i64 dd) := (unhide K).2.c 6 (by simp)
  go_wp2_with fail
  clear mPv0 mPv1 mPv2 mPv3 mPv4 mPv5 mPv6
  refine (toTask_any _ _ _ _ _ _ _ _).mono ?_
  rintro x w3 ⟨rfl, b⟩
  have S2 : Hid (w2.heap.size ≤ w3.heap.size) := hide b.size
  have K : Hid (Below w.heap.size w w3 ∧ Blk w3 w.heap.size [.string nm, .int .i64 ho, .int .i64 cy, .int .i64 dy, .int .i64 dh, .int .i64 dc, .int .i64 dd]) := hide ((unhide KEPT) _ _ (unhide K) b)
  clear b
  have mPv0 : w3.cell? ⟨w.heap.size, 0, none⟩ = some (.string nm) := (unhide K).2.c 0 (by simp)
  have mPv1 : w3.cell? ⟨w.heap.size, 1, none⟩ = some (.int .i64 ho) := (unhide K).2.c 1 (by simp)
  have mPv2 : w3.cell? ⟨w.heap.size, 2, none⟩ = some (.int .i64 cy) := (unhide K).2.c 2 (by simp)
  have mPv3 : w3.cell? ⟨w.heap.size, 3, none⟩ = some (.int .i64 dy) := (unhide K).2.c 3 (by simp)
  have mPv4 : w3.cell? ⟨w.heap.size, 4, none⟩ = some (.int .i64 dh) := (unhide K).2.c 4 (by simp)
  have mPv5 : w3.cell? ⟨w.heap.size, 5, none⟩ = some (.int .i64 dc) := (unhide K).2.c 5 (by simp)
  have mPv6 : w3.cell? ⟨w.heap.size, 6, none⟩ = some (.int .i64 dd) := (unhide K).2.c 6 (by simp)
  go_wp2_with fail
  clear mPv0 mPv1 mPv2 mPv3 mPv4 mPv5 mPv6
  refine (specTaskOk_any _ _ _ _ _ _ _ _  txv0).mono ?_
  rintro x w4 ⟨rfl, b⟩
  have S3 : Hid (w3.heap.size ≤ w4.heap.size) := hide b.size
  have K : Hid (Below w.heap.size w w4 ∧ Blk w4 w.heap.size [.string nm, .int .i64 ho, .int .i64 cy, .int .i64 dy, .int .i64 dh, .int .i64 dc, .int .i64 dd]) := hide ((unhide KEPT) _ _ (unhide K) b)
  clear b
  have mPv0 : w4.cell? ⟨w.heap.size, 0, none⟩ = some (.string nm) := (unhide K).2.c 0 (by simp)
  have mPv1 : w4.cell? ⟨w.heap.size, 1, none⟩ = some (.int .i64 ho) := (unhide K).2.c 1 (by simp)
  have mPv2 : w4.cell? ⟨w.heap.size, 2, none⟩ = some (.int .i64 cy) := (unhide K).2.c 2 (by simp)
  have mPv3 : w4.cell? ⟨w.heap.size, 3, none⟩ = some (.int .i64 dy) := (unhide K).2.c 3 (by simp)
  have mPv4 : w4.cell? ⟨w.heap.size, 4, none⟩ = some (.int .i64 dh) := (unhide K).2.c 4 (by simp)
  have mPv5 : w4.cell? ⟨w.heap.size, 5, none⟩ = some (.int .i64 dc) := (unhide K).2.c 5 (by simp)
  have mPv6 : w4.cell? ⟨w.heap.size, 6, none⟩ = some (.int .i64 dd) := (unhide K).2.c 6 (by simp)
  go_wp2_with fail
  clear mPv0 mPv1 mPv2 mPv3 mPv4 mPv5 mPv6
  refine (toTask_any _ _ _ _ _ _ _ _).mono ?_
  rintro x w5 ⟨rfl, b⟩
  have S4 : Hid (w4.heap.size ≤ w5.heap.size) := hide b.size
  have K : Hid (Below w.heap.size w w5 ∧ Blk w5 w.heap.size [.string nm, .int .i64 ho, .int .i64 cy, .int .i64 dy, .int .i64 dh, .int .i64 dc, .int .i64 dd]) := hide ((unhide KEPT) _ _ (unhide K) b)
  clear b
  have mPv0 : w5.cell? ⟨w.heap.size, 0, none⟩ = some (.string nm) := (unhide K).2.c 0 (by simp)
  have mPv1 : w5.cell? ⟨w.heap.size, 1, none⟩ = some (.int .i64 ho) := (unhide K).2.c 1 (by simp)
  have mPv2 : w5.cell? ⟨w.heap.size, 2, none⟩ = some (.int .i64 cy) := (unhide K).2.c 2 (by simp)
  have mPv3 : w5.cell? ⟨w.heap.size, 3, none⟩ = some (.int .i64 dy) := (unhide K).2.c 3 (by simp)
  have mPv4 : w5.cell? ⟨w.heap.size, 4, none⟩ = some (.int .i64 dh) := (unhide K).2.c 4 (by simp)
  have mPv5 : w5.cell? ⟨w.heap.size, 5, none⟩ = some (.int .i64 dc) := (unhide K).2.c 5 (by simp)
  have mPv6 : w5.cell? ⟨w.heap.size, 6, none⟩ = some (.int .i64 dd) := (unhide K).2.c 6 (by simp)
  go_wp2_with fail
  clear mPv0 mPv1 mPv2 mPv3 mPv4 mPv5 mPv6
  refine (implTaskOk_any _ _ _ _ _ _ _ _  txv0).mono ?_
  rintro x w6 ⟨rfl, b⟩
  have S5 : Hid (w5.heap.size ≤ w6.heap.size) := hide b.size
  have K : Hid (Below w.heap.size w w6 ∧ Blk w6 w.heap.size [.string nm, .int .i64 ho, .int .i64 cy, .int .i64 dy, .int .i64 dh, .int .i64 dc, .int .i64 dd]) := hide ((unhide KEPT) _ _ (unhide K) b)
  clear b
  have mPv0 : w6.cell? ⟨w.heap.size, 0, none⟩ = some (.string nm) := (unhide K).2.c 0 (by simp)
  have mPv1 : w6.cell? ⟨w.heap.size, 1, none⟩ = some (.int .i64 ho) := (unhide K).2.c 1 (by simp)
  have mPv2 : w6.cell? ⟨w.heap.size, 2, none⟩ = some (.int .i64 cy) := (unhide K).2.c 2 (by simp)
  have mPv3 : w6.cell? ⟨w.heap.size, 3, none⟩ = some (.int .i64 dy) := (unhide K).2.c 3 (by simp)
  have mPv4 : w6.cell? ⟨w.heap.size, 4, none⟩ = some (.int .i64 dh) := (unhide K).2.c 4 (by simp)
  have mPv5 : w6.cell? ⟨w.heap.size, 5, none⟩ = some (.int .i64 dc) := (unhide K).2.c 5 (by simp)
  have mPv6 : w6.cell? ⟨w.heap.size, 6, none⟩ = some (.int .i64 dd) := (unhide K).2.c 6 (by simp)
  go_wp2_with fail
  clear mPv0 mPv1 mPv2 mPv3 mPv4 mPv5 mPv6
  go_ret
  exact ⟨rfl, (unhide K).1⟩
end Go.Proofs.Ytilahgifaglekbb
